package fixed

import (
	"iter"
	"strconv"
	"strings"

	"besom/api"
)

// How many decimals of a text are read exactly. A multiple of a half of 2^-16 has no more of them, so of those that follow it matters only whether they are all 0.
const (
	places = 17
	zeros  = "00000000000000000"
	shift  = 100000000000000000 // 10 to the power of places
)

// Text returns a number as text.
func Text(a api.Fix) string {
	if Check(a) != api.OK {
		return ""
	}
	var text []byte
	if a < 0 {
		text = append(text, '-')
	}
	text = strconv.AppendUint(text, size(a)/api.One, 10)
	part := size(a) % api.One
	if part > 0 {
		text = append(text, '.')
	}
	for d := range decimals(part) {
		text = append(text, d)
	}
	return string(text)
}

// decimals yields the decimal digits of part / One, up to the last one that is not 0.
func decimals(part uint64) iter.Seq[byte] {
	return func(yield func(byte) bool) {
		for rest := part * 10; rest > 0; rest = rest % api.One * 10 {
			if !yield('0' + byte(rest/api.One)) {
				return
			}
		}
	}
}

// Read returns the number of a text.
func Read(s string, how int) (api.Fix, api.Errno) {
	return attempt(func() api.Fix {
		up := way(how)
		if len(s) > api.MaxWord {
			panic(fault(api.ErrLong))
		}
		minus, whole, part := split(s)
		n := value(whole)
		if n > api.MaxFix/api.One {
			panic(fault(api.ErrRange))
		}
		w := product(n, shift).plus(wide{lo: size(value(part[:places]))}).times(api.One)
		if strings.Trim(part[places:], "0") != "" {
			w = w.plus(wide{lo: 1})
		}
		if minus {
			w = w.negative()
		}
		return w.over(shift, up)
	})
}

// split returns the parts of a number's text, or stops with ErrForm: whether it has a minus sign, the digits ahead of the point, and those behind it, with at least so many digits as places.
func split(s string) (minus bool, whole, part string) {
	s, minus = strings.CutPrefix(s, "-")
	whole, part, point := strings.Cut(s, ".")
	if !isDigits(whole) || whole[0] == '0' && whole != "0" || point && !isDigits(part) {
		panic(fault(api.ErrForm))
	}
	return minus, whole, part + zeros
}

// isDigits reports whether a text is one or more decimal digits.
func isDigits(s string) bool {
	for d := range digits(s) {
		if d < 0 || d > 9 {
			return false
		}
	}
	return s != ""
}

// value returns the number of decimal digits; shift, if it is greater.
func value(s string) api.Fix {
	n := api.Fix(0)
	for d := range digits(s) {
		n = min(10*n+d, shift)
	}
	return n
}

// digits yields what each byte is worth as a decimal digit: from 0 to 9, if it is one.
func digits(s string) iter.Seq[api.Fix] {
	return func(yield func(api.Fix) bool) {
		for i := range len(s) {
			if !yield(api.Fix(s[i]) - '0') {
				return
			}
		}
	}
}
