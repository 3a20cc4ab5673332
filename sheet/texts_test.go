package sheet_test

import (
	"fmt"
	"slices"
	"strings"
	"testing"

	"besom/api"
	"besom/sheet"
)

// text returns the text of a list of stones, whatever they are.
func text(l []api.Stone) string {
	var b strings.Builder
	for _, s := range l {
		fmt.Fprintf(&b, "%c%d %d %d\n", "ry"[s.Team], s.N+1, s.At.X, s.At.Y)
	}
	return b.String()
}

// P2.6
func TestPrint(t *testing.T) {
	for _, c := range []struct {
		l    []api.Stone
		want string
	}{
		{nil, ""}, {[]api.Stone{}, ""},
		{[]api.Stone{{Team: 1, N: 2, At: api.Spot{Y: -1}}}, "y3 0 -1\n"},
		{[]api.Stone{{N: 7, At: api.Spot{X: -100, Y: 129368064}}, {Team: 1, At: mm(-1000, -6000)}}, "r8 -100 129368064\ny1 -65536000 -393216000\n"},
	} {
		if got, e := sheet.Print(c.l); got != c.want || e != api.OK {
			t.Errorf("Print(%v) is %q, error %d; want %q", c.l, got, e, c.want)
		}
	}
	for _, l := range wrongPositions() {
		if got, e := sheet.Print(l); got != "" || e != api.ErrArg {
			t.Errorf("Print(%v) is %q, error %d", l, got, e)
		}
	}
}

// P2.6, P2.9
func TestPrintAndParse(t *testing.T) {
	s := state(4)
	for n := range 600 {
		l := s.position(n % 33)
		if n == 0 {
			l = full()
		}
		got, e := sheet.Print(l)
		if got != text(l) || e != api.OK {
			t.Errorf("Print(%v) is %q, error %d", l, got, e)
		}
		back, at, e := sheet.Parse(got)
		if !slices.Equal(back, l) || at != 0 || e != api.OK {
			t.Errorf("Parse(%q) is %v, %d, error %d", got, back, at, e)
		}
	}
}

// P2.6: lines that are none.
func TestParseForms(t *testing.T) {
	lines := []string{
		"", " ", "r", "r1", "r1 ", "r1 0", "r1 0 ", "r1  0", "r1 0 0 ", " r1 0 0", "r1  0 0", "r1 0  0", "r1 0 0 0", "r1 0\t0", "r1\t0 0", "r1 0 0\r", "r1 0 0\x00",
		"r0 0 0", "r9 0 0", "r: 0 0", "r/ 0 0", "r10 0 0", "r01 0 0", "r 0 0", "1 0 0", "b1 0 0", "R1 0 0", "Y1 0 0", "yr1 0 0", "ry 0 0", "\xff1 0 0", "r\xff 0 0", "r1, 0 0", "1r 0 0",
		"r1 00 0", "r1 0 00", "r1 -0 0", "r1 0 -0", "r1 +1 0", "r1 0 +1", "r1 +0 0", "r1 01 0", "r1 0 -01", "r1 - 0", "r1 0 -", "r1 --1 0", "r1 0 1-", "r1 1_0 0", "r1 0 0x1", "r1 1. 0", "r1 0 1e2", "r1 0 a", "r1 0 \u0661",
		"r1 1000000000000000000 0", "r1 0 -1000000000000000000", "r1 9223372036854775808 0", "r1 0 99999999999999999999999999", "r1 18446744073709551616 0", "r1 0 0000000000000000000",
	}
	first := "y8 -1 1\n"
	for _, line := range lines {
		for _, c := range []struct {
			s  string
			at int
		}{
			{line + "\n", 0}, {first + line + "\n", len(first)}, {line + "\n" + line + "\n", 0}, {first + line + "\n" + first, len(first)}, {first + first + line + "\n", 2 * len(first)},
		} {
			if l, at, e := sheet.Parse(c.s); len(l) != 0 || at != c.at || e != api.ErrForm {
				t.Errorf("Parse(%q) is %v, %d, error %d; want ErrForm at %d", c.s, l, at, e, c.at)
			}
		}
	}
}

// P2.6
func TestParse(t *testing.T) {
	row := "r1 0 0\n"
	long := text(full())
	for _, c := range []struct {
		s  string
		at int
		e  api.Errno
	}{
		{"", 0, api.OK}, {row, 0, api.OK}, {long, 0, api.OK},
		{"r1 0 0\nr1 0 00\n", 7, api.ErrForm}, {"r1 0 0\nr1 0 0\n", 14, api.ErrArg},
		{"r1 0 0", 0, api.ErrForm}, {"r1 0 0\nr2 0 0", 7, api.ErrForm}, {"r1 0 0\n\n", 7, api.ErrForm}, {"\n", 0, api.ErrForm}, {"\nr1 0 0\n", 0, api.ErrForm}, {"r1 0 0\n ", 7, api.ErrForm}, {"r1 0 0\ny", 7, api.ErrForm},
		// What is no place is a right line.
		{"r1 999999999999999999 -999999999999999999\n", 42, api.ErrArg}, {"y1 -999999999999999999 0\n", 25, api.ErrArg}, {"r1 0 129368065\n", 15, api.ErrArg}, {"r1 6553600001 0\n", 16, api.ErrArg},
		{"r1 0 0\nr2 0 1\n", 14, api.ErrArg}, {"r1 0 0\nr2 0 1\ny1", 14, api.ErrForm},
		// The 17th line.
		{long + row, len(long), api.ErrForm}, {long + "y", len(long), api.ErrForm}, {long + "\n", len(long), api.ErrForm}, {strings.Repeat(row, 17), 16 * 7, api.ErrForm}, {strings.Repeat(row, 16), 16 * 7, api.ErrArg}, {strings.Repeat(row, 15) + "r1 0 0 \n" + row, 15 * 7, api.ErrForm},
		// Long texts.
		{strings.Repeat("r", 2000), 0, api.ErrForm}, {strings.Repeat("r", 2001), 0, api.ErrLong}, {row + strings.Repeat("r", 1993), 7, api.ErrForm}, {row + strings.Repeat("r", 1994), 0, api.ErrLong}, {strings.Repeat(row, 286), 0, api.ErrLong}, {strings.Repeat(row, 285), 16 * 7, api.ErrForm},
	} {
		l, at, e := sheet.Parse(c.s)
		if at != c.at || e != c.e || e != api.OK && len(l) != 0 {
			t.Errorf("Parse(%q) is %v, %d, error %d; want %d, error %d", c.s, l, at, e, c.at, c.e)
		}
		if e == api.OK && text(l) != c.s {
			t.Errorf("Parse(%q) is %v", c.s, l)
		}
	}
}

// P2.9: what is parsed without an error is printed as it was, whatever a byte of it is changed to.
func TestParseAndPrint(t *testing.T) {
	whole := "y3 0 -1\nr8 -65536000 120000000\nr1 7 99999999\n"
	right := 0
	for i := range whole {
		for b := range 256 {
			s := whole[:i] + string([]byte{byte(b)}) + whole[i+1:]
			l, at, e := sheet.Parse(s)
			if e != api.OK {
				continue
			}
			right++
			if back, e := sheet.Print(l); back != s || at != 0 || e != api.OK {
				t.Errorf("Print of what Parse(%q) returns is %q, error %d", s, back, e)
			}
		}
	}
	if right < 2*len(whole) {
		t.Error("only so many texts are right:", right)
	}
}
