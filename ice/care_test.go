package ice_test

import (
	"slices"
	"testing"

	"besom/api"
	"besom/ice"
)

// P3.3, P3.4
func TestCareExamples(t *testing.T) {
	i, g := pond()
	pebbled := func(l ...int) api.Ice {
		o := clone(i)
		o.Pebble = l
		return o
	}
	polished := func(i api.Ice, l ...int) api.Ice {
		i.Polish = l
		return i
	}
	got, e := ice.Pass(i, g, api.Spot{X: 5, Y: 5}, api.Spot{X: 5, Y: 14})
	holdIce(t, got, e, pebbled(0, 200, 150, 400, 500, 600), "Pass")
	got, e = ice.Sweep(i, api.Spot{X: 15, Y: 25}, api.Spot{X: 15, Y: 19}, 501)
	holdIce(t, got, e, polished(i, 0, 0, 0, 501, 0, 1000), "Sweep")
	got, e = ice.Fade(i, 499)
	holdIce(t, got, e, polished(i, 0, 0, 0, 0, 0, 1), "Fade")
	got, e = ice.Fade(i, 501)
	holdIce(t, got, e, polished(i, 0, 0, 0, 0, 0, 0), "Fade")
	got, e = ice.Scrape(i, api.Spot{}, api.Spot{X: 20, Y: 20}, 250)
	holdIce(t, got, e, pebbled(100, 200, 250, 250, 500, 600), "Scrape")
	got, e = ice.Scrape(i, api.Spot{X: 10, Y: 10}, api.Spot{X: 20, Y: 30}, 1000)
	holdIce(t, got, e, polished(i, 0, 0, 0, 0, 0, 0), "Scrape")
	got, e = ice.Spray(i, api.Spot{}, api.Spot{X: 20, Y: 30}, 50, 1)
	holdIce(t, got, e, pebbled(100, 250, 350, 400, 500, 650), "Spray")
	got, e = ice.Spray(i, api.Spot{}, api.Spot{X: 20, Y: 30}, 601, 0)
	holdIce(t, got, e, pebbled(701, 200, 300, 1000, 1000, 600), "Spray")
}

// P3.4
func TestMeanExamples(t *testing.T) {
	i, _ := pond()
	for _, c := range []struct {
		low, high  api.Spot
		sum, cells int
	}{
		{api.Spot{}, api.Spot{X: 19, Y: 30}, 900, 3},
		{api.Spot{}, api.Spot{X: 20, Y: 30}, 2100, 6},
		{api.Spot{X: 1}, api.Spot{X: 20, Y: 30}, 1200, 3},
		{api.Spot{Y: 1}, api.Spot{X: 20, Y: 29}, 700, 2},
		{api.Spot{X: 1, Y: 1}, api.Spot{X: 19, Y: 29}, 0, 0},
		{api.Spot{X: 5, Y: 5}, api.Spot{X: 5, Y: 5}, 0, 0},
		{api.Spot{X: 10, Y: 10}, api.Spot{X: 10, Y: 10}, 0, 0},
		{api.Spot{X: 21}, api.Spot{X: 40, Y: 40}, 0, 0},
		{api.Spot{X: -40, Y: -40}, api.Spot{X: -1, Y: -1}, 0, 0},
		{api.Spot{X: -api.MaxPlace, Y: -api.MaxPlace}, api.Spot{X: api.MaxPlace, Y: api.MaxPlace}, 2100, 6},
	} {
		sum, cells, e := ice.Mean(i, c.low, c.high)
		hold(t, [2]int{sum, cells}, e, [2]int{c.sum, c.cells}, "Mean", c.low, c.high)
	}
	// The cells may go on where no spot is.
	far := even(api.Spot{X: api.MaxPlace - 10, Y: -api.MaxPlace}, 10, 3, 3, 7, 0)
	sum, cells, e := ice.Mean(far, api.Spot{X: -api.MaxPlace, Y: -api.MaxPlace}, api.Spot{X: api.MaxPlace, Y: api.MaxPlace})
	hold(t, [2]int{sum, cells}, e, [2]int{21, 3}, "Mean")
}

// P3.3
func TestStonesAndBrooms(t *testing.T) {
	s := state(33)
	for range 3000 {
		i, g := s.ice(), s.grain()
		from, to, n := s.spot(i), s.spot(i), s.from(0, 1000)
		worn, swept, faded := clone(i), clone(i), clone(i)
		for _, c := range onWay(i, from, to) {
			worn.Pebble[c] = max(0, worn.Pebble[c]-g.Wear)
			swept.Polish[c] = min(1000, swept.Polish[c]+n)
		}
		for c := range faded.Polish {
			faded.Polish[c] = max(0, faded.Polish[c]-n)
		}
		got, e := ice.Pass(i, g, from, to)
		holdIce(t, got, e, worn, "Pass", i, g, from, to)
		got, e = ice.Sweep(i, from, to, n)
		holdIce(t, got, e, swept, "Sweep", i, from, to, n)
		got, e = ice.Fade(i, n)
		holdIce(t, got, e, faded, "Fade", i, n)
	}
}

// P3.4
func TestMaker(t *testing.T) {
	s := state(34)
	for range 5000 {
		i := s.ice()
		low, high := s.box(i)
		n, turn := s.from(0, 1000), s.below(2)
		scraped, sprayed, sum := clone(i), clone(i), 0
		for _, c := range inBox(i, low, high) {
			scraped.Pebble[c] = min(n, scraped.Pebble[c])
			scraped.Polish[c] = 0
			if (c%i.W+c/i.W+turn)%2 == 0 {
				sprayed.Pebble[c] = min(1000, sprayed.Pebble[c]+n)
			}
			sum += i.Pebble[c]
		}
		got, e := ice.Scrape(i, low, high, n)
		holdIce(t, got, e, scraped, "Scrape", i, low, high, n)
		got, e = ice.Spray(i, low, high, n, turn)
		holdIce(t, got, e, sprayed, "Spray", i, low, high, n, turn)
		total, cells, e := ice.Mean(i, low, high)
		hold(t, [2]int{total, cells}, e, [2]int{sum, len(inBox(i, low, high))}, "Mean", i, low, high)
	}
}

// refuseAll tests that no function takes ice, a grain, a box, and a number of which one is wrong.
func refuseAll(t *testing.T, i api.Ice, low, high api.Spot, n int) {
	t.Helper()
	_, g := pond()
	got, e := ice.Sweep(i, low, high, n)
	refuseIce(t, got, e, "Sweep", i, low, high, n)
	got, e = ice.Scrape(i, low, high, n)
	refuseIce(t, got, e, "Scrape", i, low, high, n)
	for turn := range 2 {
		got, e = ice.Spray(i, low, high, n, turn)
		refuseIce(t, got, e, "Spray", i, low, high, n, turn)
	}
	if n < 0 || n > 1000 {
		got, e = ice.Fade(i, n)
		refuseIce(t, got, e, "Fade", i, n)
		return
	}
	got, e = ice.Pass(i, g, low, high)
	refuseIce(t, got, e, "Pass", i, low, high)
	if sum, cells, e := ice.Mean(i, low, high); sum != 0 || cells != 0 || e != api.ErrArg {
		t.Errorf("Mean of %v, %v, %v is %d of %d, error %d", i, low, high, sum, cells, e)
	}
}

// P3.3, P3.4
func TestCareOfWhatIsWrong(t *testing.T) {
	i, _ := pond()
	for _, w := range wrongIces() {
		refuseAll(t, w, api.Spot{}, api.Spot{X: 20, Y: 30}, 10)
		got, e := ice.Fade(w, 10)
		refuseIce(t, got, e, "Fade", w)
	}
	for _, w := range wrongSpots {
		refuseAll(t, i, w, w, 10)
		refuseAll(t, i, w, api.Spot{X: api.MaxPlace, Y: api.MaxPlace}, 10)
		refuseAll(t, i, api.Spot{X: -api.MaxPlace, Y: -api.MaxPlace}, w, 10)
	}
	for _, w := range append(wrongNumbers, -1, 1001) {
		refuseAll(t, i, api.Spot{}, api.Spot{X: 20, Y: 30}, w)
	}
	for _, w := range wrongGrains() {
		got, e := ice.Pass(i, w, api.Spot{}, api.Spot{})
		refuseIce(t, got, e, "Pass", w)
	}
	for _, w := range append(wrongNumbers, -1, 2) {
		got, e := ice.Spray(i, api.Spot{}, api.Spot{}, 10, w)
		refuseIce(t, got, e, "Spray", w)
	}
	for _, low := range []api.Spot{{X: 1}, {Y: 1}, {X: 1, Y: 1}, {X: 1, Y: -5}, {X: -5, Y: 1}} {
		got, e := ice.Scrape(i, low, api.Spot{}, 10)
		refuseIce(t, got, e, "Scrape", low)
		got, e = ice.Spray(i, low, api.Spot{}, 10, 0)
		refuseIce(t, got, e, "Spray", low)
		if sum, cells, e := ice.Mean(i, low, api.Spot{}); sum != 0 || cells != 0 || e != api.ErrArg {
			t.Errorf("Mean from %v is %d of %d, error %d", low, sum, cells, e)
		}
	}
}

// P3.3, P3.4: the least and the greatest numbers are valid.
func TestCareByAllAndNothing(t *testing.T) {
	i, g := pond()
	low, high := api.Spot{}, api.Spot{X: 20, Y: 30}
	g.Wear = 0
	for _, do := range []func() (api.Ice, api.Errno){
		func() (api.Ice, api.Errno) { return ice.Pass(i, g, low, high) },
		func() (api.Ice, api.Errno) { return ice.Sweep(i, low, high, 0) },
		func() (api.Ice, api.Errno) { return ice.Fade(i, 0) },
		func() (api.Ice, api.Errno) { return ice.Spray(i, low, high, 0, 1) },
		func() (api.Ice, api.Errno) { return ice.Scrape(i, low, low, 0) },
	} {
		got, e := do()
		holdIce(t, got, e, i, "a change by nothing")
	}
	got, e := ice.Scrape(i, low, high, 0)
	holdIce(t, got, e, even(low, 10, 2, 3, 0, 0), "Scrape")
	got, e = ice.Fade(i, 1000)
	if !slices.Equal(got.Polish, make([]int, 6)) || e != api.OK {
		t.Errorf("all polish fades to %v, error %d", got.Polish, e)
	}
	got, e = ice.Sweep(i, api.Spot{X: 10, Y: 0}, api.Spot{X: 10, Y: 30}, 1000)
	if !slices.Equal(got.Polish, slices.Repeat([]int{1000}, 6)) || e != api.OK {
		t.Errorf("the polish is %v, error %d", got.Polish, e)
	}
	got, e = ice.Spray(i, low, high, 1000, 0)
	if !slices.Equal(got.Pebble, []int{1000, 200, 300, 1000, 1000, 600}) || e != api.OK {
		t.Errorf("the pebble is %v, error %d", got.Pebble, e)
	}
	g.Wear = 1000
	got, e = ice.Pass(i, g, api.Spot{X: 10, Y: 0}, api.Spot{X: 10, Y: 30})
	if !slices.Equal(got.Pebble, make([]int, 6)) || e != api.OK {
		t.Errorf("the pebble is %v, error %d", got.Pebble, e)
	}
}

// P3.6
func TestMemory(t *testing.T) {
	i, g := pond()
	was := clone(i)
	low, high := api.Spot{X: 5, Y: 5}, api.Spot{X: 15, Y: 25}
	for k, do := range []func() (api.Ice, api.Errno){
		func() (api.Ice, api.Errno) { return ice.Pass(i, g, low, high) },
		func() (api.Ice, api.Errno) { return ice.Sweep(i, low, high, 100) },
		func() (api.Ice, api.Errno) { return ice.Fade(i, 100) },
		func() (api.Ice, api.Errno) { return ice.Scrape(i, low, high, 100) },
		func() (api.Ice, api.Errno) { return ice.Spray(i, low, high, 100, 0) },
		func() (api.Ice, api.Errno) {
			return ice.Pass(i, api.Grain{Flat: 1, Keen: 1}, api.Spot{X: 50}, api.Spot{X: 50})
		},
	} {
		got, e := do()
		if e != api.OK {
			t.Errorf("the call %d has the error %d", k, e)
		}
		for _, l := range [][]int{got.Pebble, got.Polish} {
			for c := range l {
				l[c] = -1 - c
			}
		}
		again, e := do()
		for c := range again.Pebble {
			again.Pebble[c] = -7
			if again.Polish[c] == -7 || got.Pebble[c] == -7 || got.Polish[c] == -7 {
				t.Errorf("results of the call %d share memory", k)
			}
		}
		if !same(i, was) || e != api.OK {
			t.Fatalf("the call %d changes its argument to %v, error %d", k, i, e)
		}
	}
	l, _ := ice.Touched(i, low, high)
	l[0] = 77
	if m, _ := ice.Touched(i, low, high); m[0] == 77 || !same(i, was) {
		t.Error("results of Touched share memory")
	}
}
