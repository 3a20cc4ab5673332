package ice_test

import (
	"math"
	"testing"

	"besom/api"
	"besom/ice"
)

// P3.5
func TestWeightExamples(t *testing.T) {
	i, g := pond()
	for _, c := range []struct {
		from api.Spot
		to   api.Fix
		want api.Fix
	}{
		{api.Spot{X: 5, Y: 5}, 25, 628},       // three pieces, each 1
		{api.Spot{X: 5, Y: 5}, 10, 363},       // one piece: a border at its end cuts nothing
		{api.Spot{X: 5, Y: 10}, 20, 363},      // likewise at its beginning
		{api.Spot{X: 5, Y: -10}, 0, 363},      // ahead of the first border
		{api.Spot{X: 5, Y: -10}, 1, 512},      // over it
		{api.Spot{X: 5, Y: 25}, 30, 363},      // up to the last border
		{api.Spot{X: 5, Y: 25}, 31, 512},      // over it
		{api.Spot{X: 5, Y: 30}, 31, 363},      // from it on
		{api.Spot{X: 100, Y: -1}, 31, 810},    // beside the cells the borders cut too: five pieces
		{api.Spot{X: 5, Y: 40}, 65576, 11449}, // 1000 times 65536, twice, by the root
	} {
		got, e := ice.Weight(i, g, c.from, c.to)
		hold(t, got, e, c.want, "Weight", c.from, c.to)
	}
}

// P3.5
func TestWeight(t *testing.T) {
	s := state(35)
	for range 5000 {
		i, g := s.ice(), s.grain()
		a, b := s.box(i)
		if a.Y == b.Y {
			continue
		}
		got, e := ice.Weight(i, g, a, b.Y)
		hold(t, got, e, weight(i, g, a, b.Y), "Weight", i, g, a, b.Y)
	}
	near := api.Spot{X: -api.MaxPlace, Y: -api.MaxPlace}
	for _, i := range []api.Ice{even(near, 1, 1, 1, 0, 0), even(near, api.MaxPlace/100, 256, 256, 1000, 1000), even(near, 3, 1, 256, 500, 500)} {
		for _, g := range []api.Grain{{Flat: 65536, Keen: 65536}, {Flat: 65536, Keen: 1}, {Flat: 1, Keen: 1, Swept: 1000}} {
			got, e := ice.Weight(i, g, near, api.MaxPlace)
			hold(t, got, e, weight(i, g, near, api.MaxPlace), "Weight", g)
		}
	}
}

// P3.5
func TestWeightOfWhatIsWrong(t *testing.T) {
	i, g := pond()
	test := func(i api.Ice, g api.Grain, from api.Spot, to api.Fix) {
		t.Helper()
		if got, e := ice.Weight(i, g, from, to); got != 0 || e != api.ErrArg {
			t.Errorf("Weight of %v, %v from %v to %d is %d, error %d", i, g, from, to, got, e)
		}
	}
	for _, w := range wrongIces() {
		test(w, g, api.Spot{}, 10)
	}
	for _, w := range wrongGrains() {
		test(i, w, api.Spot{}, 10)
	}
	for _, w := range wrongSpots {
		test(i, g, w, 10)
		test(i, g, w, api.MaxPlace)
	}
	for _, to := range []api.Fix{5, 4, -1, -api.MaxPlace, -api.MaxPlace - 1, api.MaxPlace + 1, math.MinInt64, math.MaxInt64} {
		test(i, g, api.Spot{X: 5, Y: 5}, to)
	}
	test(i, g, api.Spot{Y: api.MaxPlace}, api.MaxPlace)
	test(i, g, api.Spot{Y: api.MaxPlace}, api.MaxPlace+1)
	got, e := ice.Weight(i, g, api.Spot{Y: api.MaxPlace - 1}, api.MaxPlace)
	hold(t, got, e, 363, "Weight")
}
