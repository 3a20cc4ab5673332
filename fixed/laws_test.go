package fixed_test

import (
	"math/big"
	"testing"

	"besom/api"
	"besom/fixed"
)

// roundings returns the results of a call by all ways of rounding, and whether all of them fit.
func roundings(call func(how int) (api.Fix, api.Errno)) (out [4]api.Fix, ok bool) {
	for _, how := range ways {
		n, e := call(how)
		if e != api.OK {
			return out, false
		}
		out[how] = n
	}
	return out, true
}

// lawful reports whether results are in order; minus: they are below 0, or 0.
func lawful(r [4]api.Fix, minus bool) bool {
	cut := r[api.Down]
	if minus {
		cut = r[api.Up]
	}
	return r[api.Down] <= r[api.Near] && r[api.Near] <= r[api.Up] && r[api.Up] <= r[api.Down]+1 && r[api.Cut] == cut
}

// P1.6: the order of the ways of rounding.
func TestLawsOfRounding(t *testing.T) {
	for _, a := range samples() {
		r, ok := roundings(func(how int) (api.Fix, api.Errno) {
			n, e := fixed.Int(a, how)
			return api.Fix(n), e
		})
		if !ok || !lawful(r, a < 0) {
			t.Errorf("Int of %d: %v", a, r)
		}
		if r, ok := roundings(func(how int) (api.Fix, api.Errno) { return fixed.Root(a, how) }); ok && !lawful(r, false) {
			t.Errorf("Root of %d: %v", a, r)
		}
		for _, b := range samples() {
			if r, ok := roundings(func(how int) (api.Fix, api.Errno) { return fixed.Mul(a, b, how) }); ok && !lawful(r, (a < 0) != (b < 0)) {
				t.Errorf("Mul of %d and %d: %v", a, b, r)
			}
			if r, ok := roundings(func(how int) (api.Fix, api.Errno) { return fixed.Div(a, b, how) }); ok && !lawful(r, (a < 0) != (b < 0)) {
				t.Errorf("Div of %d and %d: %v", a, b, r)
			}
		}
	}
}

// P1.6: what Cut and Near round is turned with its sign.
func TestLawOfSigns(t *testing.T) {
	for _, how := range []int{api.Cut, api.Near} {
		for _, a := range samples() {
			n, _ := fixed.Int(a, how)
			m, _ := fixed.Int(-a, how)
			if n != -m {
				t.Errorf("Int of %d is %d, of its negative %d", a, n, m)
			}
			for _, b := range samples() {
				p, _ := fixed.Mul(a, b, how)
				q, _ := fixed.Mul(-a, b, how)
				r, _ := fixed.Mul(a, -b, how)
				if p != -q || p != -r {
					t.Errorf("Mul of %d and %d is %d; with other signs %d, %d", a, b, p, q, r)
				}
				p, _ = fixed.Div(a, b, how)
				q, _ = fixed.Div(-a, b, how)
				r, _ = fixed.Div(a, -b, how)
				if p != -q || p != -r {
					t.Errorf("Div of %d and %d is %d; with other signs %d, %d", a, b, p, q, r)
				}
			}
		}
	}
}

// P1.6: a text is read as what it was.
func TestLawOfTexts(t *testing.T) {
	l := append(samples(), 0, api.MaxFix, -api.MaxFix)
	for n := range api.Fix(3000) {
		l = append(l, n*22, -n*22-1)
	}
	for _, a := range l {
		for _, how := range ways {
			if got, e := fixed.Read(fixed.Text(a), how); got != a || e != api.OK {
				t.Errorf("%d is read as %d, error %d", a, got, e)
			}
		}
	}
}

// P1.6: no way is longer than one by way of another spot.
func TestLawOfTriangles(t *testing.T) {
	l := spots()
	for i, a := range l {
		for k := i % 5; k < len(l); k += 5 {
			b := l[k]
			c, e := fixed.Plus(a, b)
			if e != api.OK {
				continue
			}
			p, e := fixed.Length(a, api.Up)
			q, f := fixed.Length(b, api.Up)
			r, g := fixed.Length(c, api.Up)
			if e == api.OK && f == api.OK && g == api.OK && r > p+q {
				t.Errorf("the lengths of %v and %v are %d and %d, that of their sum %d", a, b, p, q, r)
			}
		}
	}
}

// P1.6: units are hardly shorter than 1, and are turned with their spots.
func TestLawOfUnits(t *testing.T) {
	one := big.NewInt(api.One * api.One)
	least := big.NewInt((api.One - 3) * (api.One - 3))
	for _, a := range spots() {
		if a == (api.Spot{}) {
			continue
		}
		u, e := fixed.Unit(a)
		if s := square(u); e != api.OK || s.Cmp(one) > 0 || s.Cmp(least) <= 0 {
			t.Errorf("Unit(%v) is %v, error %d", a, u, e)
		}
		if l, e := fixed.Unit(fixed.Left(a)); l != fixed.Left(u) || e != api.OK {
			t.Errorf("the unit of %v, turned, is %v, error %d", a, l, e)
		}
	}
}

// P1.6: a turn has a side.
func TestLawOfTurns(t *testing.T) {
	l := spots()
	for i, a := range l {
		want := 1
		if a == (api.Spot{}) {
			want = 0
		}
		if got, e := fixed.Turn(a, fixed.Left(a)); got != want || e != api.OK {
			t.Errorf("to the left of %v is %d, error %d", a, got, e)
		}
		for k := i % 5; k < len(l); k += 5 {
			p, _ := fixed.Turn(a, l[k])
			q, _ := fixed.Turn(l[k], a)
			if p != -q {
				t.Errorf("the turns of %v and %v are %d and %d", a, l[k], p, q)
			}
		}
	}
}
