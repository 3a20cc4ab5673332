package fixed_test

import (
	"math"
	"math/big"
	"testing"

	"besom/api"
	"besom/fixed"
)

// P1.1
func TestCheck(t *testing.T) {
	for _, n := range samples() {
		if e := fixed.Check(n); e != api.OK {
			t.Errorf("Check(%d) is %d", n, e)
		}
	}
	for _, n := range []api.Fix{0, api.MaxFix, -api.MaxFix} {
		if e := fixed.Check(n); e != api.OK {
			t.Errorf("Check(%d) is %d", n, e)
		}
	}
	for _, n := range wrong {
		if e := fixed.Check(n); e != api.ErrArg {
			t.Errorf("Check(%d) is %d", n, e)
		}
	}
}

// P1.1
func TestOf(t *testing.T) {
	for _, n := range []int{0, 1, -1, 3, 1000, -77777, 1<<30 - 1, 1 << 30, -1 << 30} {
		got, e := fixed.Of(n)
		hold(t, got, e, times(big.NewInt(int64(n)), big.NewInt(api.One)), "Of", n)
	}
	// 1 << 48 times One is 0 in 64 bits.
	for _, n := range []int{1<<30 + 1, -1<<30 - 1, 1 << 46, 1 << 47, 1 << 48, -1 << 48, math.MaxInt, math.MinInt} {
		got, e := fixed.Of(n)
		refuse(t, got, e, api.ErrRange, "Of", n)
	}
}

// P1.1
func TestInt(t *testing.T) {
	for _, c := range []struct {
		a    api.Fix
		want [4]int
	}{
		{-98304, [4]int{-1, -2, -1, -2}},
		{98304, [4]int{1, 1, 2, 2}},
		{98303, [4]int{1, 1, 2, 1}},
		{-98303, [4]int{-1, -2, -1, -1}},
		{1, [4]int{0, 0, 1, 0}},
		{-1, [4]int{0, -1, 0, 0}},
		{32768, [4]int{0, 0, 1, 1}},
		{-32768, [4]int{0, -1, 0, -1}},
		{-3 * api.One, [4]int{-3, -3, -3, -3}},
		{api.MaxFix, [4]int{1 << 30, 1 << 30, 1 << 30, 1 << 30}},
		{0, [4]int{}},
	} {
		for _, how := range ways {
			if n, e := fixed.Int(c.a, how); n != c.want[how] || e != api.OK {
				t.Errorf("Int(%d, %d) is %d, error %d; want %d", c.a, how, n, e, c.want[how])
			}
		}
	}
	for _, a := range samples() {
		for _, how := range ways {
			n, e := fixed.Int(a, how)
			hold(t, api.Fix(n), e, rounded(whole(a), big.NewInt(api.One), how), "Int", a, how)
		}
	}
	for _, a := range wrong {
		n, e := fixed.Int(a, api.Cut)
		refuse(t, n, e, api.ErrArg, "Int", a)
	}
	for _, how := range wrongWays {
		n, e := fixed.Int(api.One, how)
		refuse(t, n, e, api.ErrArg, "Int", how)
	}
}

// P1.1
func TestSums(t *testing.T) {
	l := append(samples(), api.MaxFix, -api.MaxFix, 0)
	for _, a := range l {
		for _, b := range l {
			got, e := fixed.Add(a, b)
			hold(t, got, e, sum(whole(a), whole(b)), "Add", a, b)
			got, e = fixed.Sub(a, b)
			hold(t, got, e, sum(whole(a), whole(-b)), "Sub", a, b)
		}
	}
	for _, a := range wrong {
		got, e := fixed.Add(a, -1)
		refuse(t, got, e, api.ErrArg, "Add", a, -1)
		got, e = fixed.Add(1, a)
		refuse(t, got, e, api.ErrArg, "Add", 1, a)
		got, e = fixed.Sub(a, a)
		refuse(t, got, e, api.ErrArg, "Sub", a, a)
		got, e = fixed.Sub(1, a)
		refuse(t, got, e, api.ErrArg, "Sub", 1, a)
	}
}
