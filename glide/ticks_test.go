package glide_test

import (
	"testing"

	"besom/api"
	"besom/glide"
)

// P4.2
func TestTickExamples(t *testing.T) {
	i, g := bare()
	far := api.Moving{At: api.Spot{X: -7, Y: 9}, Speed: api.Spot{X: 800, Y: -600}, Spin: -3}
	for _, c := range []struct {
		m        api.Moving
		strength int
		want     api.Moving
	}{
		{up(10000, 0), 0, api.Moving{At: api.Spot{Y: 9000}, Speed: api.Spot{Y: 9000}}},
		{up(10000, 1000), 0, api.Moving{At: api.Spot{X: -500, Y: 9000}, Speed: api.Spot{X: -500, Y: 9000}, Spin: 1000}},
		{up(10000, -1000), 0, api.Moving{At: api.Spot{X: 500, Y: 9000}, Speed: api.Spot{X: 500, Y: 9000}, Spin: -1000}},
		{up(10000, 0), 1000, api.Moving{At: api.Spot{Y: 9200}, Speed: api.Spot{Y: 9200}}},
		// Swept with all strength a stone curls half as much, by the brake that is left: 800 / 4.
		{up(10000, 1000), 1000, api.Moving{At: api.Spot{X: -200, Y: 9200}, Speed: api.Spot{X: -200, Y: 9200}, Spin: 1000}},
		{up(10000, 0), 2, api.Moving{At: api.Spot{Y: 9000}, Speed: api.Spot{Y: 9000}}},          // 999.6
		{up(10000, 0), 3, api.Moving{At: api.Spot{Y: 9001}, Speed: api.Spot{Y: 9001}}},          // 999.4
		{up(10000, 0), 998, api.Moving{At: api.Spot{Y: 9200}, Speed: api.Spot{Y: 9200}}},        // 800.4
		{up(10000, 0), 997, api.Moving{At: api.Spot{Y: 9199}, Speed: api.Spot{Y: 9199}}},        // 800.6
		{up(10000, 1), 0, api.Moving{At: api.Spot{Y: 9000}, Speed: api.Spot{Y: 9000}, Spin: 1}}, // 32 of One: less than 1
		{up(1000, 7), 0, api.Moving{}},
		{up(1001, 0), 0, api.Moving{At: api.Spot{Y: 1}, Speed: api.Spot{Y: 1}}},
		{up(801, 0), 1000, api.Moving{At: api.Spot{Y: 1}, Speed: api.Spot{Y: 1}}},
		{up(800, 0), 1000, api.Moving{}},
		{far, 0, api.Moving{At: api.Spot{X: -7, Y: 9}}},                                                // 800, 600 are 1000
		{api.Moving{Speed: api.Spot{X: 1000, Y: 44}}, 0, api.Moving{}},                                 // less than 1001
		{api.Moving{Speed: api.Spot{X: 708, Y: 707}}, 0, api.Moving{}},                                 // 1000.6
		{api.Moving{At: api.Spot{X: 3, Y: 4}, Spin: -7}, 0, api.Moving{At: api.Spot{X: 3, Y: 4}}},      // at rest
		{api.Moving{At: api.Spot{X: 3, Y: 4}, Spin: 1000}, 1000, api.Moving{At: api.Spot{X: 3, Y: 4}}}, // likewise
		{api.Moving{At: api.Spot{X: 3, Y: 4}}, 0, api.Moving{At: api.Spot{X: 3, Y: 4}}},                // likewise
		{api.Moving{Speed: api.Spot{X: -3000}, Spin: 1000}, 0, api.Moving{At: api.Spot{X: -2000, Y: -500}, Speed: api.Spot{X: -2000, Y: -500}, Spin: 1000}},
	} {
		got, e := glide.Tick(i, g, c.m, c.strength)
		hold(t, got, e, c.want, "Tick", c.m, c.strength)
	}
}

// P4.2: ice that does not brake at all turns no stone, and lets it go on.
func TestTickWithoutBrake(t *testing.T) {
	i, g := bare()
	i.Polish[0], g.Swept = 1000, 1000
	m := api.Moving{Speed: api.Spot{X: 1}, Spin: 1000}
	got, e := glide.Tick(i, g, m, 0)
	hold(t, got, e, api.Moving{At: api.Spot{X: 1}, Speed: api.Spot{X: 1}, Spin: 1000}, "Tick", m)
	got, e = glide.Tick(i, g, api.Moving{Spin: 1000}, 0)
	hold(t, got, e, api.Moving{}, "Tick of a stone at rest")
}

// P4.2: the ice is that where the stone is before the tick; beside the cells it has neither pebble nor polish.
func TestTickOverCells(t *testing.T) {
	i := api.Ice{Side: 5000, W: 1, H: 2, Pebble: []int{1000, 0}, Polish: []int{0, 1000}}
	g := api.Grain{Flat: 1000, Keen: 400, Swept: 500, Bend: 0}
	for _, c := range []struct {
		y, want api.Fix
	}{
		{-1, 9000}, {0, 9600}, {4999, 9600}, {5000, 9500}, {9999, 9500}, {10000, 9000},
	} {
		m := up(10000, 0)
		m.At.Y = c.y
		got, e := glide.Tick(i, g, m, 0)
		hold(t, got, e, api.Moving{At: api.Spot{Y: c.y + c.want}, Speed: api.Spot{Y: c.want}}, "Tick", m)
	}
}

// P4.2
func TestTick(t *testing.T) {
	s := state(42)
	test := func(i api.Ice, g api.Grain, m api.Moving, n int) {
		t.Helper()
		got, e := glide.Tick(i, g, m, n)
		if want, ok := tick(i, g, m, n); ok {
			hold(t, got, e, want, "Tick", i, g, m, n)
		} else {
			refuse(t, got, e, api.ErrRange, "Tick", i, g, m, n)
		}
	}
	for range 30000 {
		g := s.grain()
		i, m, n := s.ice(g), s.stone(g), s.from(0, 1000)
		test(i, g, m, n)
		m.Speed = api.Spot{X: m.Speed.X % 50, Y: m.Speed.Y % 50}
		g.Flat, g.Keen = 20, min(g.Keen, 20)
		test(i, g, m, n)
	}
	// The fastest stones, turned as much as may be, at the edges of all places.
	hard := api.Grain{Flat: api.MaxSlow, Keen: api.MaxSlow, Bend: 1000}
	for range 5000 {
		m := api.Moving{Spin: 1000 - 2000*s.below(2)}
		for _, n := range []*api.Fix{&m.Speed.X, &m.Speed.Y} {
			*n = api.Fix((api.MaxSpeed - s.below(4)*s.below(300)) * (1 - 2*s.below(2)))
		}
		test(s.ice(hard), hard, m, 0)
		m.At = api.Spot{X: api.MaxPlace + m.Speed.Y - m.Speed.X, Y: api.MaxPlace + m.Speed.X - m.Speed.Y}
		m.At = api.Spot{X: min(m.At.X, api.MaxPlace), Y: min(m.At.Y, api.MaxPlace)}
		test(s.ice(hard), hard, m, 0)
	}
}

// P4.2: a place on the way that is not valid.
func TestTickTooFar(t *testing.T) {
	i, g := bare()
	const edge = api.MaxPlace
	for _, c := range []struct {
		at, speed api.Fix
		ok        bool
	}{
		{edge, 5000, false}, {edge - 4000, 5000, true}, {edge - 3999, 5000, false}, {edge, 1000, true}, {edge, 1001, false}, {edge, -5000, true},
		{-edge, -5000, false}, {4000 - edge, -5000, true}, {3999 - edge, -5000, false}, {-edge, -1000, true}, {-edge, -1001, false}, {-edge, 5000, true},
	} {
		for _, m := range []api.Moving{
			{At: api.Spot{X: c.at}, Speed: api.Spot{X: c.speed}},
			{At: api.Spot{Y: c.at}, Speed: api.Spot{Y: c.speed}},
		} {
			got, e := glide.Tick(i, g, m, 0)
			if c.ok && e != api.OK {
				t.Errorf("Tick of %v has the error %d", m, e)
			} else if !c.ok {
				refuse(t, got, e, api.ErrRange, "Tick", m)
			}
		}
	}
}

// P4.2
func TestTickOfWhatIsWrong(t *testing.T) {
	i, g := bare()
	gone := api.Moving{At: api.Spot{Y: api.MaxPlace}, Speed: api.Spot{Y: 5000}}
	test := func(i api.Ice, g api.Grain, m api.Moving, n int) {
		t.Helper()
		got, e := glide.Tick(i, g, m, n)
		refuse(t, got, e, api.ErrArg, "Tick", i, g, m, n)
	}
	for _, m := range []api.Moving{up(3500, 7), {Spin: 7}, gone} {
		for _, w := range wrongIces() {
			test(w, g, m, 0)
		}
		for _, w := range wrongGrains() {
			test(i, w, m, 0)
		}
		for _, n := range append(wrongNumbers, -1, 1001) {
			test(i, g, m, n)
		}
	}
	for _, w := range wrongStones() {
		test(i, g, w, 0)
	}
}
