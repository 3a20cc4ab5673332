package fixed_test

import (
	"math"
	"math/big"
	"testing"

	"besom/api"
)

// The tests hold the results against integers of any size (package math/big).

// ways are all ways of rounding.
var ways = [4]int{api.Cut, api.Down, api.Up, api.Near}

// wrongWays are none.
var wrongWays = []int{-1, 4, math.MinInt, math.MaxInt}

// wrong are numbers that are not valid.
var wrong = []api.Fix{api.MaxFix + 1, -api.MaxFix - 1, math.MaxInt64, math.MinInt64, math.MinInt64 + 1}

// edges returns valid numbers near those where something changes.
func edges() []api.Fix {
	var out []api.Fix
	for _, n := range []api.Fix{2, 32768, api.One, 3 * api.One / 2, 3 * api.One, 1 << 31, 1<<45 + 1<<44, 1<<46 - 2} {
		for d := api.Fix(-2); d <= 2; d++ {
			out = append(out, n+d, -n-d)
		}
	}
	return out
}

// samples returns edges and others of all sizes, always the same ones.
func samples() []api.Fix {
	out := edges()
	state := uint64(1)
	for range 80 {
		state = state*6364136223846793005 + 1442695040888963407
		n := api.Fix(state >> 18 >> (state % 46))
		out = append(out, n, -n)
	}
	return out
}

// spots returns pairs of samples.
func spots() []api.Spot {
	l := samples()
	var out []api.Spot
	for i, x := range l {
		out = append(out, api.Spot{X: x, Y: l[(i*7+3)%len(l)]}, api.Spot{X: x, Y: -x}, api.Spot{X: x}, api.Spot{Y: x})
	}
	return out
}

// whole returns an integer of any size.
func whole(n api.Fix) *big.Int { return big.NewInt(int64(n)) }

// times returns a product.
func times(a, b *big.Int) *big.Int { return new(big.Int).Mul(a, b) }

// sum returns a sum.
func sum(a, b *big.Int) *big.Int { return new(big.Int).Add(a, b) }

// square returns x * x + y * y.
func square(a api.Spot) *big.Int {
	return sum(times(whole(a.X), whole(a.X)), times(whole(a.Y), whole(a.Y)))
}

// rounded returns num / den, rounded.
func rounded(num, den *big.Int, how int) *big.Int {
	below, rest := new(big.Int).DivMod(num, den, new(big.Int))
	if den.Sign() < 0 && rest.Sign() > 0 { // DivMod rounds up then
		below.Sub(below, big.NewInt(1))
		rest.Add(rest, den)
	}
	if rest.Sign() == 0 {
		return below
	}
	above := sum(below, big.NewInt(1))
	minus := num.Sign() != den.Sign()
	middle := times(rest, big.NewInt(2)).CmpAbs(den)
	if how == api.Up || how == api.Cut && minus || how == api.Near && (middle > 0 || middle == 0 && !minus) {
		return above
	}
	return below
}

// rootRounded returns the root of n, rounded.
func rootRounded(n *big.Int, how int) *big.Int {
	below := new(big.Int).Sqrt(n)
	above := sum(below, big.NewInt(1))
	middle := sum(below, above)
	half := times(n, big.NewInt(4)).Cmp(times(middle, middle))
	exact := times(below, below).Cmp(n) == 0
	if !exact && (how == api.Up || how == api.Near && half >= 0) {
		return above
	}
	return below
}

// hold tests a number against the exact one, which may not fit.
func hold(t *testing.T, got api.Fix, e api.Errno, want *big.Int, what string, args ...any) {
	t.Helper()
	if want.CmpAbs(big.NewInt(api.MaxFix)) > 0 {
		if got != 0 || e != api.ErrRange {
			t.Errorf("%s of %v is %d, error %d; want ErrRange", what, args, got, e)
		}
		return
	}
	if e != api.OK || whole(got).Cmp(want) != 0 {
		t.Errorf("%s of %v is %d, error %d; want %v", what, args, got, e, want)
	}
}

// refuse tests that a call has an error, and a zero value beside it.
func refuse[T comparable](t *testing.T, got T, e, want api.Errno, what string, args ...any) {
	t.Helper()
	var zero T
	if got != zero || e != want {
		t.Errorf("%s of %v is %v, error %d; want the error %d", what, args, got, e, want)
	}
}
