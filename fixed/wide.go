package fixed

import (
	"math/bits"

	"besom/api"
)

// wide is the integer hi * 2^64 + lo.
type wide struct {
	hi int64
	lo uint64
}

// product returns a * b. Neither of them is the least number of 64 bits.
func product(a, b api.Fix) wide {
	hi, lo := bits.Mul64(size(a), size(b))
	w := wide{int64(hi), lo}
	if (a < 0) != (b < 0) {
		return w.negative()
	}
	return w
}

// size returns a number without its sign.
func size(a api.Fix) uint64 {
	if a < 0 {
		return uint64(-a)
	}
	return uint64(a)
}

// negative returns -w.
func (w wide) negative() wide {
	lo, borrow := bits.Sub64(0, w.lo, 0)
	hi, _ := bits.Sub64(0, uint64(w.hi), borrow)
	return wide{int64(hi), lo}
}

// plus returns w + v.
func (w wide) plus(v wide) wide {
	lo, carry := bits.Add64(w.lo, v.lo, 0)
	hi, _ := bits.Add64(uint64(w.hi), uint64(v.hi), carry)
	return wide{int64(hi), lo}
}

// times returns w * n, of a w that is not below 0.
func (w wide) times(n uint64) wide {
	hi, lo := bits.Mul64(w.lo, n)
	return wide{w.hi*int64(n) + int64(hi), lo}
}

// compare returns 1, 0 or -1 as w is greater than, equal to, or less than v.
func (w wide) compare(v wide) int {
	switch {
	case w == v:
		return 0
	case w.hi > v.hi || w.hi == v.hi && w.lo > v.lo:
		return 1
	}
	return -1
}

// over returns w / den, rounded; den is not 0.
func (w wide) over(den api.Fix, up rounding) api.Fix {
	minus := (w.hi < 0) != (den < 0)
	if w.hi < 0 {
		w = w.negative()
	}
	gap := size(den)
	if uint64(w.hi) >= gap { // the quotient has more than 64 bits
		panic(fault(api.ErrRange))
	}
	whole, rest := bits.Div64(uint64(w.hi), w.lo, gap)
	whole = min(whole, api.MaxFix+1) // so that it does not overflow below: greater ones do not fit either
	if up(minus, rest, gap) {
		whole++
	}
	if minus {
		return fitting(-api.Fix(whole))
	}
	return fitting(api.Fix(whole))
}

// root returns the root of w, rounded; w is from 0 to below 2^94.
func (w wide) root(up rounding) api.Fix {
	whole := w.wholeRoot()
	rest := w.plus(product(whole, whole).negative())
	// From the square of whole to the next one it is 2 whole + 1: w is in the
	// upper half of that just if its root is nearer to the next integer.
	if up(false, rest.lo, 2*size(whole)+1) {
		whole++
	}
	return fitting(whole)
}

// wholeRoot returns the greatest integer whose square is at most w, by Newton's way: from above, as long as it descends.
func (w wide) wholeRoot() api.Fix {
	if w == (wide{}) {
		return 0
	}
	n := bits.Len64(w.lo)
	if w.hi > 0 {
		n = 64 + bits.Len64(uint64(w.hi))
	}
	root := uint64(1) << ((n + 1) / 2)
	for {
		quotient, _ := bits.Div64(uint64(w.hi), w.lo, root)
		next := (root + quotient) / 2
		if next >= root {
			return api.Fix(root)
		}
		root = next
	}
}

// rounding tells whether the size of a number that is rest / gap above an integer is rounded up to the next one.
type rounding func(minus bool, rest, gap uint64) bool

// way returns a way of rounding, or stops with ErrArg.
func way(how int) rounding {
	switch how {
	case api.Cut:
		return func(bool, uint64, uint64) bool { return false }
	case api.Down:
		return func(minus bool, rest, _ uint64) bool { return minus && rest > 0 }
	case api.Up:
		return func(minus bool, rest, _ uint64) bool { return !minus && rest > 0 }
	case api.Near:
		return func(_ bool, rest, gap uint64) bool { return rest >= gap-rest }
	}
	panic(fault(api.ErrArg))
}
