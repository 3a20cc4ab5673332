package ice_test

import (
	"math"
	"slices"
	"testing"

	"besom/api"
	"besom/ice"
)

// P3.1
func TestCheck(t *testing.T) {
	good, _ := pond()
	for _, i := range []api.Ice{
		good,
		even(api.Spot{X: api.MaxPlace, Y: -api.MaxPlace}, api.MaxPlace, 256, 256, 1000, 1000),
		even(api.Spot{X: -api.MaxPlace, Y: api.MaxPlace}, 1, 1, 1, 0, 0),
		even(api.Spot{}, 10, 256, 1, 0, 1000),
		even(api.Spot{}, 10, 1, 256, 1000, 0),
	} {
		if e := ice.Check(i); e != api.OK {
			t.Errorf("Check of %d times %d cells from %v on is %d", i.W, i.H, i.Corner, e)
		}
	}
	for k, i := range wrongIces() {
		if e := ice.Check(i); e != api.ErrArg {
			t.Errorf("Check of the wrong ice %d is %d", k, e)
		}
	}
}

// P3.1
func TestCheckGrain(t *testing.T) {
	_, good := pond()
	for _, g := range []api.Grain{good, {Flat: 1, Keen: 1}, {Flat: 65536, Keen: 65536, Swept: 1000, Bend: 1000, Wear: 1000}, {Flat: 65536, Keen: 1}} {
		if e := ice.CheckGrain(g); e != api.OK {
			t.Errorf("CheckGrain of %v is %d", g, e)
		}
	}
	for _, g := range wrongGrains() {
		if e := ice.CheckGrain(g); e != api.ErrArg {
			t.Errorf("CheckGrain of %v is %d", g, e)
		}
	}
}

// P3.1
func TestAt(t *testing.T) {
	i, _ := pond()
	for _, c := range []struct {
		s    api.Spot
		want int
	}{
		{api.Spot{}, 0}, {api.Spot{X: 9, Y: 9}, 0}, {api.Spot{X: 10}, 1}, {api.Spot{X: 19, Y: 9}, 1}, {api.Spot{Y: 10}, 2},
		{api.Spot{X: 10, Y: 10}, 3}, {api.Spot{X: 9, Y: 20}, 4}, {api.Spot{X: 19, Y: 29}, 5}, {api.Spot{X: 10, Y: 20}, 5},
	} {
		got, e := ice.At(i, c.s)
		hold(t, got, e, c.want, "At", c.s)
	}
	for _, s := range []api.Spot{{X: 20}, {X: -1, Y: 5}, {Y: 30}, {Y: -1}, {X: 20, Y: 30}, {X: api.MaxPlace}, {Y: api.MaxPlace}, {X: -api.MaxPlace}, {X: 5, Y: -api.MaxPlace}} {
		if got, e := ice.At(i, s); got != 0 || e != api.ErrNone {
			t.Errorf("At of %v is %d, error %d", s, got, e)
		}
	}
	for _, s := range wrongSpots {
		if got, e := ice.At(i, s); got != 0 || e != api.ErrArg {
			t.Errorf("At of %v is %d, error %d", s, got, e)
		}
	}
	for _, i := range wrongIces() {
		if got, e := ice.At(i, api.Spot{X: -1}); got != 0 || e != api.ErrArg {
			t.Errorf("At of wrong ice is %d, error %d", got, e)
		}
	}
}

// P3.1
func TestSlowAndBendExamples(t *testing.T) {
	i, g := pond()
	for _, c := range []struct {
		s          api.Spot
		slow, bend api.Fix
	}{
		{api.Spot{}, 950, 6554}, {api.Spot{X: 10, Y: 25}, 630, 4915}, {api.Spot{X: 50, Y: 50}, 1000, 6554}, {api.Spot{X: -1, Y: 25}, 1000, 6554},
	} {
		got, e := ice.Slow(i, g, c.s)
		hold(t, got, e, c.slow, "Slow", c.s)
		got, e = ice.Bend(i, g, c.s)
		hold(t, got, e, c.bend, "Bend", c.s)
	}
	// Halves are rounded up, first for r, then for the brake: 3 less 0.5 and 2 times a half; 5 less 0.5 (1) and 4 times 0.625.
	for _, c := range []struct {
		flat, keen            api.Fix
		pebble, swept, polish int
		want                  api.Fix
	}{
		{3, 2, 500, 1000, 500, 1}, {5, 4, 500, 375, 1000, 3}, {5, 4, 499, 375, 1000, 3}, {65536, 1, 1000, 1000, 1000, 0},
		{65536, 1, 1000, 1000, 0, 1}, {65536, 1, 0, 0, 1000, 65536}, {1, 1, 1000, 500, 1000, 1}, {1, 1, 1000, 501, 1000, 0},
	} {
		got, e := ice.Slow(even(api.Spot{}, 5, 1, 1, c.pebble, c.polish), api.Grain{Flat: c.flat, Keen: c.keen, Swept: c.swept}, api.Spot{X: 4, Y: 4})
		hold(t, got, e, c.want, "Slow", c)
	}
	for _, c := range []struct {
		bend, polish int
		want         api.Fix
	}{
		{1000, 0, 65536}, {1000, 1000, 32768}, {0, 0, 0}, {1, 0, 66}, {1, 1000, 33}, {125, 1000, 4096}, {125, 875, 4608}, {375, 996, 12337},
	} {
		got, e := ice.Bend(even(api.Spot{}, 5, 1, 1, 0, c.polish), api.Grain{Flat: 1, Keen: 1, Bend: c.bend}, api.Spot{})
		hold(t, got, e, c.want, "Bend", c)
	}
}

// P3.1
func TestCells(t *testing.T) {
	s := state(31)
	for range 5000 {
		i, g := s.ice(), s.grain()
		a := s.spot(i)
		want, err := cell(i, a), api.OK
		if want < 0 {
			want, err = 0, api.ErrNone
		}
		if got, e := ice.At(i, a); got != want || e != err {
			t.Errorf("At of %v in %v is %d, error %d; want %d, error %d", a, i, got, e, want, err)
		}
		got, e := ice.Slow(i, g, a)
		hold(t, got, e, brake(i, g, a), "Slow", i, g, a)
		got, e = ice.Bend(i, g, a)
		hold(t, got, e, bend(i, g, a), "Bend", i, g, a)
	}
}

// P3.1
func TestSlowAndBendOfWhatIsWrong(t *testing.T) {
	i, g := pond()
	test := func(i api.Ice, g api.Grain, s api.Spot) {
		t.Helper()
		if got, e := ice.Slow(i, g, s); got != 0 || e != api.ErrArg {
			t.Errorf("Slow of %v, %v, %v is %d, error %d", i, g, s, got, e)
		}
		if got, e := ice.Bend(i, g, s); got != 0 || e != api.ErrArg {
			t.Errorf("Bend of %v, %v, %v is %d, error %d", i, g, s, got, e)
		}
	}
	for _, w := range wrongIces() {
		test(w, g, api.Spot{})
	}
	for _, w := range wrongGrains() {
		test(i, w, api.Spot{})
	}
	for _, w := range wrongSpots {
		test(i, g, w)
	}
}

// P3.2
func TestTouchedExamples(t *testing.T) {
	i, _ := pond()
	for _, c := range []struct {
		from, to api.Spot
		want     []int
	}{
		{api.Spot{X: 5, Y: 5}, api.Spot{X: 5, Y: 14}, []int{0, 2}},
		{api.Spot{X: 5, Y: 5}, api.Spot{X: 15, Y: 15}, []int{0, 1, 2, 3}},
		{api.Spot{X: 5, Y: 5}, api.Spot{X: 9, Y: 9}, []int{0}},
		{api.Spot{X: 5, Y: 5}, api.Spot{X: 10, Y: 5}, []int{0, 1}},
		{api.Spot{X: 10, Y: 10}, api.Spot{X: 10, Y: 10}, []int{0, 1, 2, 3}},
		{api.Spot{X: 20, Y: 5}, api.Spot{X: 20, Y: 5}, []int{1}},
		{api.Spot{X: 21, Y: 5}, api.Spot{X: 21, Y: 5}, nil},
		{api.Spot{X: -1, Y: 5}, api.Spot{X: -1, Y: 25}, nil},
		{api.Spot{X: -5, Y: -5}, api.Spot{}, []int{0}},
		{api.Spot{X: -5, Y: 5}, api.Spot{X: 5, Y: -5}, []int{0}},
		{api.Spot{X: -5, Y: 5}, api.Spot{X: 5, Y: -6}, nil},
		{api.Spot{X: 5, Y: 15}, api.Spot{X: 15, Y: 5}, []int{0, 1, 2, 3}},
		{api.Spot{X: 5, Y: 15}, api.Spot{X: 14, Y: 5}, []int{0, 1, 2}},
		{api.Spot{X: 5, Y: 15}, api.Spot{X: 16, Y: 5}, []int{1, 2, 3}},
		{api.Spot{X: 15, Y: 35}, api.Spot{X: 25, Y: 25}, []int{5}},
		{api.Spot{X: 15, Y: 36}, api.Spot{X: 25, Y: 25}, nil},
		{api.Spot{X: -api.MaxPlace, Y: -api.MaxPlace}, api.Spot{X: api.MaxPlace, Y: api.MaxPlace}, []int{0, 1, 2, 3, 5}},
		{api.Spot{X: api.MaxPlace, Y: 20}, api.Spot{X: -api.MaxPlace, Y: 20}, []int{2, 3, 4, 5}},
	} {
		for range 2 {
			got, e := ice.Touched(i, c.from, c.to)
			if !slices.Equal(got, c.want) || e != api.OK {
				t.Errorf("Touched from %v to %v is %v, error %d; want %v", c.from, c.to, got, e, c.want)
			}
			c.from, c.to = c.to, c.from
		}
	}
}

// P3.2
func TestTouched(t *testing.T) {
	s := state(32)
	for range 6000 {
		i := s.ice()
		from, to := s.spot(i), s.spot(i)
		if got, e := ice.Touched(i, from, to); !slices.Equal(got, onWay(i, from, to)) || e != api.OK {
			t.Errorf("Touched from %v to %v in %v is %v, error %d; want %v", from, to, i, got, e, onWay(i, from, to))
		}
	}
	// Products of these coordinates do not fit in 64 bits.
	far := api.Spot{X: api.MaxPlace, Y: api.MaxPlace}
	near := api.Spot{X: -api.MaxPlace, Y: -api.MaxPlace}
	for _, i := range []api.Ice{
		even(near, api.MaxPlace/5, 16, 16, 0, 0), even(far, api.MaxPlace, 4, 256, 0, 0), even(near, api.MaxPlace, 256, 3, 0, 0), even(near, 1, 3, 3, 0, 0),
	} {
		for _, to := range []api.Spot{far, {X: far.X - 1, Y: far.Y}, {X: near.X, Y: far.Y}, {X: near.X + 1, Y: far.Y - 1}, {X: far.X, Y: near.Y + 1}, {}} {
			if got, e := ice.Touched(i, near, to); !slices.Equal(got, onWay(i, near, to)) || e != api.OK {
				t.Errorf("Touched to %v, of cells of %d from %v on, is %v, error %d", to, i.Side, i.Corner, got, e)
			}
		}
	}
}

// P3.2
func TestTouchedOfWhatIsWrong(t *testing.T) {
	i, _ := pond()
	test := func(i api.Ice, from, to api.Spot) {
		t.Helper()
		if got, e := ice.Touched(i, from, to); len(got) != 0 || e != api.ErrArg {
			t.Errorf("Touched of %v from %v to %v is %v, error %d", i, from, to, got, e)
		}
	}
	for _, w := range wrongIces() {
		test(w, api.Spot{}, api.Spot{})
	}
	for _, w := range wrongSpots {
		test(i, w, api.Spot{})
		test(i, api.Spot{}, w)
		test(i, w, w)
	}
	test(i, api.Spot{X: math.MinInt64}, api.Spot{X: math.MaxInt64})
}
