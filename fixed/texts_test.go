package fixed_test

import (
	"math/big"
	"strings"
	"testing"

	"besom/api"
	"besom/fixed"
)

// P1.3
func TestText(t *testing.T) {
	for _, c := range []struct {
		a    api.Fix
		want string
	}{
		{0, "0"},
		{-98304, "-1.5"},
		{1, "0.0000152587890625"},
		{-1, "-0.0000152587890625"},
		{32768, "0.5"},
		{api.One, "1"},
		{-10 * api.One, "-10"},
		{api.One + 1<<12, "1.0625"},
		{65535, "0.9999847412109375"},
		{api.MaxFix, "1073741824"},
		{-api.MaxFix + 1, "-1073741823.9999847412109375"},
	} {
		if got := fixed.Text(c.a); got != c.want {
			t.Errorf("Text(%d) is %q; want %q", c.a, got, c.want)
		}
	}
	for _, a := range wrong {
		if got := fixed.Text(a); got != "" {
			t.Errorf("Text(%d) is %q", a, got)
		}
	}
}

// P1.3: the text is exact, and has no zeros at the end.
func TestTextIsExact(t *testing.T) {
	for _, a := range samples() {
		got := fixed.Text(a)
		r, ok := new(big.Rat).SetString(got)
		if !ok || r.Cmp(big.NewRat(int64(a), api.One)) != 0 {
			t.Errorf("Text(%d) is %q", a, got)
		}
		if strings.Contains(got, ".") && strings.HasSuffix(got, "0") || strings.HasSuffix(got, ".") {
			t.Errorf("Text(%d) ends with a zero or a point: %q", a, got)
		}
	}
}

// P1.3
func TestReadExamples(t *testing.T) {
	for _, c := range []struct {
		s    string
		want [4]api.Fix
	}{
		{"0", [4]api.Fix{}},
		{"-0", [4]api.Fix{}},
		{"-0.000", [4]api.Fix{}},
		{"0.1", [4]api.Fix{6553, 6553, 6554, 6554}},
		{"-0.1", [4]api.Fix{-6553, -6554, -6553, -6554}},
		{"1.50", [4]api.Fix{98304, 98304, 98304, 98304}},
		{"10", [4]api.Fix{655360, 655360, 655360, 655360}},
		{"0.00000762939453125", [4]api.Fix{0, 0, 1, 1}}, // a half of 2^-16
		{"0.00000762939453124", [4]api.Fix{0, 0, 1, 0}}, // less
		{"0.0000076293945312499999999999999999999999999999999999999999", [4]api.Fix{0, 0, 1, 0}}, // hardly less
		{"0.0000076293945312500000000000000000000000000000000000000001", [4]api.Fix{0, 0, 1, 1}}, // hardly more
		{"-0.00000762939453125", [4]api.Fix{0, -1, 0, -1}},
		{"0.0000000000000000000000000000000000000000000000000000000001", [4]api.Fix{0, 0, 1, 0}},
		{"0.0000152587890625000000000000000000000000000000000000000001", [4]api.Fix{1, 1, 2, 1}},
		{"0.9999999999999999999999999999999999999999999999999999999999", [4]api.Fix{65535, 65535, 65536, 65536}},
	} {
		for _, how := range ways {
			if got, e := fixed.Read(c.s, how); got != c.want[how] || e != api.OK {
				t.Errorf("Read(%q, %d) is %d, error %d; want %d", c.s, how, got, e, c.want[how])
			}
		}
	}
}

// P1.3
func TestReadIsExact(t *testing.T) {
	digits := "3141592653589793238462643383279502884197169399375105820974944"
	for n := 1; n <= 11; n++ {
		for from := range 20 {
			for places := 1; places+n+1 < 60 && from+n+places < len(digits); places++ {
				head := strings.TrimLeft(digits[from:from+n], "0")
				if head == "" {
					head = "0"
				}
				for _, s := range []string{head + "." + digits[from+n:from+n+places], "-" + head + "." + digits[from+n:from+n+places]} {
					r, _ := new(big.Rat).SetString(s)
					for _, how := range ways {
						got, e := fixed.Read(s, how)
						hold(t, got, e, rounded(times(r.Num(), big.NewInt(api.One)), r.Denom(), how), "Read", s, how)
					}
				}
			}
		}
	}
}

// P1.3
func TestReadRange(t *testing.T) {
	for _, c := range []struct {
		s    string
		want [4]api.Errno
	}{
		{"1073741824", [4]api.Errno{}},
		{"-1073741824.0", [4]api.Errno{}},
		{"1073741824.000000000000000000000001", [4]api.Errno{api.Up: api.ErrRange}},
		{"-1073741824.000000000000000000000001", [4]api.Errno{api.Down: api.ErrRange}},
		{"1073741824.00000762939453125", [4]api.Errno{api.Up: api.ErrRange, api.Near: api.ErrRange}},
		{"1073741825", [4]api.Errno{api.ErrRange, api.ErrRange, api.ErrRange, api.ErrRange}},
		{"-1073741825", [4]api.Errno{api.ErrRange, api.ErrRange, api.ErrRange, api.ErrRange}},
		{"18446744073709551616", [4]api.Errno{api.ErrRange, api.ErrRange, api.ErrRange, api.ErrRange}}, // 2^64
		{strings.Repeat("9", 60), [4]api.Errno{api.ErrRange, api.ErrRange, api.ErrRange, api.ErrRange}},
		{"1" + strings.Repeat("0", 59), [4]api.Errno{api.ErrRange, api.ErrRange, api.ErrRange, api.ErrRange}},
	} {
		for _, how := range ways {
			got, e := fixed.Read(c.s, how)
			if e != c.want[how] || e != api.OK && got != 0 {
				t.Errorf("Read(%q, %d) is %d, error %d; want %d", c.s, how, got, e, c.want[how])
			}
		}
	}
}

// P1.3
func TestReadRefused(t *testing.T) {
	for _, s := range []string{"", "-", ".", "-.", ".5", "-.5", "1.", "-1.", "01", "-01", "00", "-00", "00.5", "+1", "--1", "1-", "1.-1", "1.2.3", "1..2", " 1", "1 ", "1e3", "0x1", "1,5", "1_0", "1.5a", "a", "1/2", "1:2", "1.5/", "1.5:", "\x00", "1\x00", "1\n", "١", "½", "1.\xff"} {
		got, e := fixed.Read(s, api.Near)
		refuse(t, got, e, api.ErrForm, "Read", s)
	}
	long := strings.Repeat("0", 61)
	for _, s := range []string{long, "0." + long[:59], strings.Repeat("x", 61), strings.Repeat("1", 1000)} {
		got, e := fixed.Read(s, api.Near)
		refuse(t, got, e, api.ErrLong, "Read", s)
	}
	got, e := fixed.Read("x"+strings.Repeat("1", 59), api.Near)
	refuse(t, got, e, api.ErrForm, "Read", "60 bytes")
	got, e = fixed.Read(strings.Repeat("9", 59)+"x", api.Near)
	refuse(t, got, e, api.ErrForm, "Read", "a great number with an x")
	for _, how := range wrongWays {
		for _, s := range []string{"1", "x", long, "9999999999"} {
			got, e := fixed.Read(s, how)
			refuse(t, got, e, api.ErrArg, "Read", s, how)
		}
	}
}
