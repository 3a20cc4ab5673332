package fixed_test

import (
	"math/big"
	"testing"

	"besom/api"
	"besom/fixed"
)

// holdSpot tests a spot against exact numbers, which may not fit.
func holdSpot(t *testing.T, got api.Spot, e api.Errno, x, y *big.Int, what string, args ...any) {
	t.Helper()
	most := big.NewInt(api.MaxFix)
	if x.CmpAbs(most) > 0 || y.CmpAbs(most) > 0 {
		refuse(t, got, e, api.ErrRange, what, args...)
		return
	}
	hold(t, got.X, e, x, what, args...)
	hold(t, got.Y, e, y, what, args...)
}

// wrongSpots returns spots that are not valid.
func wrongSpots() []api.Spot {
	var out []api.Spot
	for _, n := range wrong {
		out = append(out, api.Spot{X: n}, api.Spot{Y: n}, api.Spot{X: n, Y: n})
	}
	return out
}

// P1.4
func TestPlusMinus(t *testing.T) {
	l := spots()
	for i, a := range l {
		for k := i % 5; k < len(l); k += 5 {
			b := l[k]
			got, e := fixed.Plus(a, b)
			holdSpot(t, got, e, sum(whole(a.X), whole(b.X)), sum(whole(a.Y), whole(b.Y)), "Plus", a, b)
			got, e = fixed.Minus(a, b)
			holdSpot(t, got, e, sum(whole(a.X), whole(-b.X)), sum(whole(a.Y), whole(-b.Y)), "Minus", a, b)
		}
	}
	for _, a := range wrongSpots() {
		for _, b := range []api.Spot{{}, a} {
			got, e := fixed.Plus(a, b)
			refuse(t, got, e, api.ErrArg, "Plus", a, b)
			got, e = fixed.Plus(b, a)
			refuse(t, got, e, api.ErrArg, "Plus", b, a)
			got, e = fixed.Minus(a, b)
			refuse(t, got, e, api.ErrArg, "Minus", a, b)
			got, e = fixed.Minus(b, a)
			refuse(t, got, e, api.ErrArg, "Minus", b, a)
		}
	}
}

// P1.4: one coordinate that does not fit is enough.
func TestSpotsOutOfRange(t *testing.T) {
	for _, a := range []api.Spot{{X: api.MaxFix}, {Y: api.MaxFix}} {
		got, e := fixed.Plus(a, api.Spot{X: 1, Y: 1})
		refuse(t, got, e, api.ErrRange, "Plus", a)
		got, e = fixed.Minus(a, api.Spot{X: -1, Y: -1})
		refuse(t, got, e, api.ErrRange, "Minus", a)
		got, e = fixed.Times(a, api.One+1, api.Cut)
		refuse(t, got, e, api.ErrRange, "Times", a)
	}
}

// P1.4
func TestTimes(t *testing.T) {
	if got, e := fixed.Times(api.Spot{X: 3, Y: -3}, 32768, api.Near); got != (api.Spot{X: 2, Y: -2}) || e != api.OK {
		t.Errorf("a half of (3, -3) is %v, error %d", got, e)
	}
	one := big.NewInt(api.One)
	for _, a := range spots() {
		for _, b := range edges() {
			for _, how := range ways {
				got, e := fixed.Times(a, b, how)
				x := rounded(times(whole(a.X), whole(b)), one, how)
				y := rounded(times(whole(a.Y), whole(b)), one, how)
				holdSpot(t, got, e, x, y, "Times", a, b, how)
			}
		}
	}
	for _, a := range wrongSpots() {
		got, e := fixed.Times(a, 0, api.Cut)
		refuse(t, got, e, api.ErrArg, "Times", a, 0)
	}
	for _, b := range wrong {
		got, e := fixed.Times(api.Spot{}, b, api.Cut)
		refuse(t, got, e, api.ErrArg, "Times", 0, b)
	}
	for _, how := range wrongWays {
		got, e := fixed.Times(api.Spot{X: api.MaxFix}, api.MaxFix, how)
		refuse(t, got, e, api.ErrArg, "Times", how)
	}
}

// P1.4
func TestDot(t *testing.T) {
	// Each product alone would be rounded to 0, or to 1.
	for how, want := range [4]api.Fix{1, 1, 1, 1} {
		if got, e := fixed.Dot(api.Spot{X: 1, Y: 1}, api.Spot{X: 32768, Y: 32768}, how); got != want || e != api.OK {
			t.Errorf("two halves are %d, error %d, way %d", got, e, how)
		}
	}
	// Each product alone would be too great.
	if got, e := fixed.Dot(api.Spot{X: api.MaxFix, Y: api.MaxFix}, api.Spot{X: api.MaxFix, Y: -api.MaxFix}, api.Up); got != 0 || e != api.OK {
		t.Errorf("two great products are %d, error %d", got, e)
	}
	l := spots()
	for i, a := range l {
		for k := i % 5; k < len(l); k += 5 {
			b := l[k]
			exact := sum(times(whole(a.X), whole(b.X)), times(whole(a.Y), whole(b.Y)))
			for _, how := range ways {
				got, e := fixed.Dot(a, b, how)
				hold(t, got, e, rounded(exact, big.NewInt(api.One), how), "Dot", a, b, how)
			}
		}
	}
	for _, a := range wrongSpots() {
		got, e := fixed.Dot(a, api.Spot{}, api.Cut)
		refuse(t, got, e, api.ErrArg, "Dot", a, 0)
		got, e = fixed.Dot(api.Spot{}, a, api.Cut)
		refuse(t, got, e, api.ErrArg, "Dot", 0, a)
	}
	for _, how := range wrongWays {
		got, e := fixed.Dot(api.Spot{X: api.MaxFix}, api.Spot{X: api.MaxFix}, how)
		refuse(t, got, e, api.ErrArg, "Dot", how)
	}
}

// P1.4
func TestLength(t *testing.T) {
	if got, e := fixed.Length(api.Spot{X: -3 * api.One, Y: 4 * api.One}, api.Up); got != 5*api.One || e != api.OK {
		t.Errorf("the length of (-3, 4) is %d, error %d", got, e)
	}
	// Hardly longer than the greatest number.
	for how, want := range [4]api.Errno{api.OK, api.OK, api.ErrRange, api.OK} {
		if _, e := fixed.Length(api.Spot{X: 1, Y: -api.MaxFix}, how); e != want {
			t.Errorf("a length above the greatest number, way %d: error %d; want %d", how, e, want)
		}
	}
	l := append(spots(), api.Spot{}, api.Spot{X: api.MaxFix, Y: api.MaxFix}, api.Spot{X: -api.MaxFix})
	for n := api.Fix(0); n < 60; n++ {
		for m := api.Fix(0); m <= n; m++ {
			l = append(l, api.Spot{X: n, Y: -m})
		}
	}
	for _, a := range l {
		for _, how := range ways {
			got, e := fixed.Length(a, how)
			hold(t, got, e, rootRounded(square(a), how), "Length", a, how)
		}
	}
	for _, a := range wrongSpots() {
		got, e := fixed.Length(a, api.Cut)
		refuse(t, got, e, api.ErrArg, "Length", a)
	}
	for _, how := range wrongWays {
		got, e := fixed.Length(api.Spot{X: api.MaxFix, Y: api.MaxFix}, how)
		refuse(t, got, e, api.ErrArg, "Length", how)
	}
}

// isShare reports whether u is 65536 n by the root of s, rounded by Cut.
func isShare(u, n api.Fix, s *big.Int) bool {
	if u < 0 || n < 0 {
		u, n = -u, -n
	}
	most := times(times(whole(n), whole(n)), big.NewInt(api.One*api.One))
	next := u + 1
	return u >= 0 && n >= 0 && times(times(whole(u), whole(u)), s).Cmp(most) <= 0 && times(times(whole(next), whole(next)), s).Cmp(most) > 0
}

// P1.4
func TestUnit(t *testing.T) {
	for _, c := range []struct{ a, want api.Spot }{
		{api.Spot{X: 3 * api.One, Y: 4 * api.One}, api.Spot{X: 39321, Y: 52428}},
		{api.Spot{X: -3, Y: 4}, api.Spot{X: -39321, Y: 52428}},
		{api.Spot{X: 1, Y: 1}, api.Spot{X: 46340, Y: 46340}},
		{api.Spot{X: api.MaxFix, Y: -api.MaxFix}, api.Spot{X: 46340, Y: -46340}},
		{api.Spot{X: -1}, api.Spot{X: -api.One}},
		{api.Spot{Y: api.MaxFix}, api.Spot{Y: api.One}},
		{api.Spot{X: 1, Y: api.MaxFix}, api.Spot{Y: api.One - 1}},
	} {
		if got, e := fixed.Unit(c.a); got != c.want || e != api.OK {
			t.Errorf("Unit(%v) is %v, error %d; want %v", c.a, got, e, c.want)
		}
	}
	for _, a := range spots() {
		got, e := fixed.Unit(a)
		if a == (api.Spot{}) {
			refuse(t, got, e, api.ErrZero, "Unit", a)
			continue
		}
		s := square(a)
		if e != api.OK || !isShare(got.X, a.X, s) || !isShare(got.Y, a.Y, s) {
			t.Errorf("Unit(%v) is %v, error %d", a, got, e)
		}
	}
	for _, a := range wrongSpots() {
		got, e := fixed.Unit(a)
		refuse(t, got, e, api.ErrArg, "Unit", a)
	}
	got, e := fixed.Unit(api.Spot{})
	refuse(t, got, e, api.ErrZero, "Unit", 0)
}

// P1.4
func TestLeft(t *testing.T) {
	for _, a := range append(spots(), api.Spot{X: 3, Y: 4}, api.Spot{X: api.MaxFix, Y: api.MaxFix}) {
		if got := fixed.Left(a); got != (api.Spot{X: -a.Y, Y: a.X}) {
			t.Errorf("Left(%v) is %v", a, got)
		}
	}
	for _, a := range append(wrongSpots(), api.Spot{X: 1, Y: api.MaxFix + 1}, api.Spot{X: -api.MaxFix - 1, Y: 1}) {
		if got := fixed.Left(a); got != (api.Spot{}) {
			t.Errorf("Left(%v) is %v", a, got)
		}
	}
}
