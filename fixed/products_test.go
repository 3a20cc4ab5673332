package fixed_test

import (
	"math"
	"math/big"
	"testing"

	"besom/api"
	"besom/fixed"
)

// P1.2
func TestMulExamples(t *testing.T) {
	for _, c := range []struct {
		a, b api.Fix
		want [4]api.Fix
	}{
		{1, 1, [4]api.Fix{0, 0, 1, 0}},
		{-1, 1, [4]api.Fix{0, -1, 0, 0}},
		{1, 32768, [4]api.Fix{0, 0, 1, 1}},
		{-1, 32768, [4]api.Fix{0, -1, 0, -1}},
		{3 * api.One, -5 * api.One, [4]api.Fix{-15 * api.One, -15 * api.One, -15 * api.One, -15 * api.One}},
	} {
		for _, how := range ways {
			if n, e := fixed.Mul(c.a, c.b, how); n != c.want[how] || e != api.OK {
				t.Errorf("Mul(%d, %d, %d) is %d, error %d; want %d", c.a, c.b, how, n, e, c.want[how])
			}
		}
	}
}

// P1.2
func TestMulDiv(t *testing.T) {
	l := append(samples(), api.MaxFix, -api.MaxFix)
	for _, a := range l {
		for _, b := range l {
			for _, how := range ways {
				got, e := fixed.Mul(a, b, how)
				hold(t, got, e, rounded(times(whole(a), whole(b)), big.NewInt(api.One), how), "Mul", a, b, how)
				got, e = fixed.Div(a, b, how)
				if b == 0 {
					refuse(t, got, e, api.ErrZero, "Div", a, b, how)
					continue
				}
				hold(t, got, e, rounded(times(whole(a), big.NewInt(api.One)), whole(b), how), "Div", a, b, how)
			}
		}
	}
}

// P1.2: whether a result fits is decided after it was rounded.
func TestMulAtTheEdge(t *testing.T) {
	// 2^46 - 2^-14: a little less than the greatest number.
	for how, want := range [4]api.Fix{api.MaxFix - 1, api.MaxFix - 1, api.MaxFix, api.MaxFix} {
		if got, e := fixed.Mul(1<<30+1, 1<<32-4, how); got != want || e != api.OK {
			t.Errorf("below the greatest number, way %d: %d, error %d; want %d", how, got, e, want)
		}
	}
	// 2^46 + 2^-16: a little more.
	const a, b = 384773, 5 * 5581 * 8681 * 49477
	if a*b != 1<<62+1 {
		t.Fatalf("the factors make %d", a*b)
	}
	for how, want := range [4]api.Errno{api.Up: api.ErrRange} {
		if _, e := fixed.Mul(a, b, how); e != want {
			t.Errorf("above the greatest number, way %d: error %d; want %d", how, e, want)
		}
	}
	for how, want := range [4]api.Errno{api.Down: api.ErrRange} {
		if _, e := fixed.Mul(-a, b, how); e != want {
			t.Errorf("below the least number, way %d: error %d; want %d", how, e, want)
		}
	}
}

// P1.2
func TestMulDivRefused(t *testing.T) {
	for _, a := range wrong {
		for _, b := range []api.Fix{0, 1, a} {
			got, e := fixed.Mul(a, b, api.Cut)
			refuse(t, got, e, api.ErrArg, "Mul", a, b)
			got, e = fixed.Mul(b, a, api.Cut)
			refuse(t, got, e, api.ErrArg, "Mul", b, a)
			got, e = fixed.Div(a, b, api.Cut)
			refuse(t, got, e, api.ErrArg, "Div", a, b)
			got, e = fixed.Div(b, a, api.Cut)
			refuse(t, got, e, api.ErrArg, "Div", b, a)
		}
	}
	for _, how := range wrongWays {
		got, e := fixed.Mul(api.MaxFix, api.MaxFix, how)
		refuse(t, got, e, api.ErrArg, "Mul", how)
		got, e = fixed.Div(1, 0, how)
		refuse(t, got, e, api.ErrArg, "Div", how)
	}
}

// rates are factors and divisors near those where something changes.
var rates = []int{1, 2, 3, 5, 7, 1000, 65535, 65536, 65537, 999983, 1<<31 - 1, 1 << 31}

// P1.2
func TestScale(t *testing.T) {
	for how, want := range [4]api.Fix{-2, -3, -2, -3} {
		if got, e := fixed.Scale(5, -1, 2, how); got != want || e != api.OK {
			t.Errorf("Scale(5, -1, 2, %d) is %d, error %d; want %d", how, got, e, want)
		}
	}
	for _, a := range append(samples(), api.MaxFix, -api.MaxFix) {
		for _, num := range rates {
			for _, den := range rates {
				for _, how := range ways {
					for _, s := range [][2]int{{num, den}, {-num, den}, {num, -den}, {-num, -den}} {
						got, e := fixed.Scale(a, s[0], s[1], how)
						want := rounded(times(whole(a), big.NewInt(int64(s[0]))), big.NewInt(int64(s[1])), how)
						hold(t, got, e, want, "Scale", a, s, how)
					}
				}
			}
		}
		got, e := fixed.Scale(a, 0, -3, api.Up)
		hold(t, got, e, new(big.Int), "Scale", a, 0, -3)
	}
}

// P1.2
func TestScaleRefused(t *testing.T) {
	for _, n := range []int{1<<31 + 1, -1<<31 - 1, math.MaxInt, math.MinInt} {
		got, e := fixed.Scale(1, n, 0, api.Cut)
		refuse(t, got, e, api.ErrArg, "Scale", 1, n, 0)
		got, e = fixed.Scale(1, 1, n, api.Cut)
		refuse(t, got, e, api.ErrArg, "Scale", 1, 1, n)
	}
	for _, a := range wrong {
		got, e := fixed.Scale(a, 1, 0, api.Cut)
		refuse(t, got, e, api.ErrArg, "Scale", a, 1, 0)
	}
	for _, how := range wrongWays {
		got, e := fixed.Scale(1, 1, 0, how)
		refuse(t, got, e, api.ErrArg, "Scale", 1, 1, 0, how)
	}
	for _, how := range ways {
		got, e := fixed.Scale(0, 0, 0, how)
		refuse(t, got, e, api.ErrZero, "Scale", 0, 0, 0, how)
	}
}

// P1.2
func TestRoot(t *testing.T) {
	for how, want := range [4]api.Fix{92681, 92681, 92682, 92682} {
		if got, e := fixed.Root(2*api.One, how); got != want || e != api.OK {
			t.Errorf("Root(2 One, %d) is %d, error %d; want %d", how, got, e, want)
		}
	}
	l := append(samples(), 0, api.MaxFix)
	for n := api.Fix(1); n < 400; n++ {
		l = append(l, n, n*n*api.One, n*n*api.One-1, n*n*api.One+1)
	}
	for _, a := range l {
		for _, how := range ways {
			got, e := fixed.Root(a, how)
			if a < 0 {
				refuse(t, got, e, api.ErrLess, "Root", a, how)
				continue
			}
			hold(t, got, e, rootRounded(times(whole(a), big.NewInt(api.One)), how), "Root", a, how)
		}
	}
	for _, a := range wrong {
		got, e := fixed.Root(a, api.Down)
		refuse(t, got, e, api.ErrArg, "Root", a)
	}
	for _, how := range wrongWays {
		got, e := fixed.Root(-1, how)
		refuse(t, got, e, api.ErrArg, "Root", -1, how)
	}
}
