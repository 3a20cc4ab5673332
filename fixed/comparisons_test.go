package fixed_test

import (
	"testing"

	"besom/api"
	"besom/fixed"
)

// P1.5
func TestFarther(t *testing.T) {
	const m = api.MaxFix
	for _, c := range []struct {
		a, b api.Spot
		want int
	}{
		{api.Spot{X: 3, Y: 4}, api.Spot{X: -5}, 0},
		{api.Spot{}, api.Spot{}, 0},
		{api.Spot{X: 1}, api.Spot{}, 1},
		{api.Spot{X: m, Y: 1}, api.Spot{Y: -m}, 1},
		{api.Spot{X: m, Y: m}, api.Spot{X: m, Y: m - 1}, 1},
		{api.Spot{X: 7, Y: 1}, api.Spot{X: -5, Y: 5}, 0},
	} {
		if got, e := fixed.Farther(c.a, c.b); got != c.want || e != api.OK {
			t.Errorf("Farther(%v, %v) is %d, error %d; want %d", c.a, c.b, got, e, c.want)
		}
		if got, e := fixed.Farther(c.b, c.a); got != -c.want || e != api.OK {
			t.Errorf("Farther(%v, %v) is %d, error %d; want %d", c.b, c.a, got, e, -c.want)
		}
	}
	l := spots()
	for i, a := range l {
		for k := i % 5; k < len(l); k += 5 {
			if got, e := fixed.Farther(a, l[k]); got != square(a).Cmp(square(l[k])) || e != api.OK {
				t.Errorf("Farther(%v, %v) is %d, error %d", a, l[k], got, e)
			}
		}
	}
	for _, a := range wrongSpots() {
		got, e := fixed.Farther(a, api.Spot{})
		refuse(t, got, e, api.ErrArg, "Farther", a, 0)
		got, e = fixed.Farther(api.Spot{}, a)
		refuse(t, got, e, api.ErrArg, "Farther", 0, a)
	}
}

// P1.5
func TestTurn(t *testing.T) {
	const m = api.MaxFix
	for _, c := range []struct {
		a, b api.Spot
		want int
	}{
		{api.Spot{X: 1}, api.Spot{Y: 1}, 1},
		{api.Spot{X: 1}, api.Spot{Y: -1}, -1},
		{api.Spot{X: 2, Y: 4}, api.Spot{X: 1, Y: 2}, 0},
		{api.Spot{X: 2, Y: 4}, api.Spot{X: -1, Y: -2}, 0},
		{api.Spot{}, api.Spot{X: -1, Y: -2}, 0},
		{api.Spot{X: m, Y: m - 1}, api.Spot{X: m - 1, Y: m - 2}, -1},
		{api.Spot{X: m - 1, Y: m - 2}, api.Spot{X: m, Y: m - 1}, 1},
		{api.Spot{X: m, Y: m}, api.Spot{X: m, Y: m}, 0},
		{api.Spot{X: m, Y: -m}, api.Spot{X: m, Y: m}, 1},
	} {
		if got, e := fixed.Turn(c.a, c.b); got != c.want || e != api.OK {
			t.Errorf("Turn(%v, %v) is %d, error %d; want %d", c.a, c.b, got, e, c.want)
		}
	}
	l := spots()
	for i, a := range l {
		for k := i % 5; k < len(l); k += 5 {
			b := l[k]
			want := times(whole(a.X), whole(b.Y)).Cmp(times(whole(a.Y), whole(b.X)))
			if got, e := fixed.Turn(a, b); got != want || e != api.OK {
				t.Errorf("Turn(%v, %v) is %d, error %d; want %d", a, b, got, e, want)
			}
		}
	}
	for _, a := range wrongSpots() {
		got, e := fixed.Turn(a, api.Spot{X: 1, Y: 2})
		refuse(t, got, e, api.ErrArg, "Turn", a)
		got, e = fixed.Turn(api.Spot{X: 1, Y: 2}, a)
		refuse(t, got, e, api.ErrArg, "Turn", a)
	}
}

// P1.5
func TestWithin(t *testing.T) {
	const m = api.MaxFix
	for _, c := range []struct {
		a    api.Spot
		r    api.Fix
		want bool
	}{
		{api.Spot{X: 3, Y: 4}, 5, true},
		{api.Spot{X: 3, Y: 4}, 4, false},
		{api.Spot{X: 3, Y: 4}, -5, false},
		{api.Spot{}, 0, true},
		{api.Spot{}, -1, false},
		{api.Spot{X: 1}, 0, false},
		{api.Spot{X: -m}, m, true},
		{api.Spot{X: -m, Y: 1}, m, false},
		{api.Spot{X: m, Y: m}, m, false},
		{api.Spot{X: m}, -m, false},
	} {
		if got, e := fixed.Within(c.a, c.r); got != c.want || e != api.OK {
			t.Errorf("Within(%v, %d) is %v, error %d", c.a, c.r, got, e)
		}
	}
	for _, a := range spots() {
		for _, r := range samples() {
			want := r >= 0 && square(a).Cmp(times(whole(r), whole(r))) <= 0
			if got, e := fixed.Within(a, r); got != want || e != api.OK {
				t.Errorf("Within(%v, %d) is %v, error %d", a, r, got, e)
			}
		}
	}
	for _, a := range wrongSpots() {
		got, e := fixed.Within(a, -1)
		refuse(t, got, e, api.ErrArg, "Within", a, -1)
		got, e = fixed.Within(a, api.MaxFix)
		refuse(t, got, e, api.ErrArg, "Within", a, api.MaxFix)
	}
	for _, r := range wrong {
		got, e := fixed.Within(api.Spot{}, r)
		refuse(t, got, e, api.ErrArg, "Within", 0, r)
	}
}
