package glide_test

import (
	"slices"
	"testing"

	"besom/api"
	"besom/glide"
)

// ended is what Run returns beside an error.
type ended struct {
	stone api.Moving
	ticks int
}

// P4.3
func TestRunExamples(t *testing.T) {
	i, g := bare()
	first := []api.Broom{{To: 1, Strength: 1000}, {To: 1, Strength: 3}}
	moved := func(y, speed api.Fix, spin int) api.Moving {
		return api.Moving{At: api.Spot{Y: y}, Speed: api.Spot{Y: speed}, Spin: spin}
	}
	for _, c := range []struct {
		m      api.Moving
		brooms []api.Broom
		most   int
		want   ended
	}{
		{up(3500, 0), nil, 100, ended{moved(4500, 0, 0), 4}},
		{up(3500, 0), nil, 5, ended{moved(4500, 0, 0), 4}},
		{up(3500, 0), nil, 4, ended{moved(4500, 0, 0), 4}},
		{up(3500, 0), nil, 3, ended{moved(4500, 500, 0), 3}},
		{up(3500, 1), nil, 1, ended{moved(2500, 2500, 1), 1}},
		{up(3500, 7), nil, 0, ended{up(3500, 7), 0}},
		{up(1000, 7), nil, 1, ended{api.Moving{}, 1}},
		{up(0, 7), nil, 100, ended{up(0, 7), 0}}, // at rest it has no tick, and keeps its spin
		{up(3500, 0), first, 100, ended{moved(2700+1700+700, 0, 0), 4}},
		{up(3500, 0), []api.Broom{{From: 1, To: 2, Strength: 1000}}, 100, ended{moved(2500+1700+700, 0, 0), 4}},
		{up(3500, 0), []api.Broom{{From: 3, To: 4, Strength: 1000}}, 100, ended{moved(4500, 0, 0), 4}},
		{up(3600, 0), []api.Broom{{From: 3, To: 4, Strength: 1000}}, 100, ended{moved(2600+1600+600, 0, 0), 4}},
		{up(3900, 0), []api.Broom{{From: 3, To: 4, Strength: 1000}}, 100, ended{moved(2900+1900+900+100, 0, 0), 5}},
	} {
		m, n, e := glide.Run(i, g, c.m, c.brooms, c.most)
		hold(t, ended{m, n}, e, c.want, "Run", c.m, c.brooms, c.most)
	}
	g.Flat, g.Keen = 1, 1
	m, n, e := glide.Run(i, g, up(10000, 0), nil, api.MaxTicks)
	hold(t, ended{m, n}, e, ended{moved(6000*(9999+4000)/2, 4000, 0), 6000}, "Run")
}

// P4.3
func TestWayExamples(t *testing.T) {
	i, g := bare()
	for _, c := range []struct {
		m           api.Moving
		most, every int
		want        []api.Fix
	}{
		{up(3500, 0), 100, 1, []api.Fix{0, 2500, 4000, 4500, 4500}},
		{up(3500, 0), 100, 2, []api.Fix{0, 4000, 4500}},
		{up(3500, 0), 100, 3, []api.Fix{0, 4500, 4500}},
		{up(3500, 0), 100, 4, []api.Fix{0, 4500}},
		{up(3500, 0), 100, api.MaxTicks, []api.Fix{0, 4500}},
		{up(3500, 0), 2, 3, []api.Fix{0, 4000}},
		{up(3500, 0), 2, 2, []api.Fix{0, 4000}},
		{up(3500, 0), 0, 1, []api.Fix{0}},
		{up(3500, 0), 0, 7, []api.Fix{0}},
		{up(0, 5), 100, 2, []api.Fix{0}},
		{up(1000, 0), 100, 1, []api.Fix{0, 0}},
		{up(1000, 0), 100, 2, []api.Fix{0, 0}},
	} {
		var want []api.Spot
		for _, y := range c.want {
			want = append(want, api.Spot{Y: y})
		}
		got, e := glide.Way(i, g, c.m, nil, c.most, c.every)
		if !slices.Equal(got, want) || e != api.OK {
			t.Errorf("the way of %v, %d, every %d, is %v, error %d; want %v", c.m, c.most, c.every, got, e, want)
		}
	}
	// Every broom has its tick here, too.
	l, e := glide.Way(i, g, up(3500, 0), []api.Broom{{To: 1, Strength: 1000}}, 2, 1)
	if !slices.Equal(l, []api.Spot{{}, {Y: 2700}, {Y: 4400}}) || e != api.OK {
		t.Errorf("the way is %v, error %d", l, e)
	}
}

// P4.3
func TestRunsAndWays(t *testing.T) {
	s := state(43)
	for range 4000 {
		g := s.grain()
		i, m, l := s.ice(g), s.stone(g), s.brooms(30)
		if s.below(5) == 0 { // near an edge that it may go beyond
			m.At = api.Spot{X: api.MaxPlace - api.Fix(s.below(100*int(g.Flat))), Y: -api.MaxPlace + api.Fix(s.below(100*int(g.Flat)))}
		}
		most, every := s.from(0, 60), s.from(1, 12)
		stones, ok := follow(i, g, m, l, most)
		end, n, e := glide.Run(i, g, m, l, most)
		way, f := glide.Way(i, g, m, l, most, every)
		if !ok {
			refuse(t, ended{end, n}, e, api.ErrRange, "Run", i, g, m, l, most)
			refuse(t, len(way), f, api.ErrRange, "Way", i, g, m, l, most, every)
			continue
		}
		hold(t, ended{end, n}, e, ended{stones[len(stones)-1], len(stones) - 1}, "Run", i, g, m, l, most)
		var want []api.Spot
		for k, at := range stones {
			if k%every == 0 {
				want = append(want, at.At)
			}
		}
		if (len(stones)-1)%every != 0 {
			want = append(want, stones[len(stones)-1].At)
		}
		if !slices.Equal(way, want) || f != api.OK {
			t.Errorf("the way of %v, %v, %v, %v, %d, %d is %v, error %d; want %v", i, g, m, l, most, every, way, f, want)
		}
	}
}

// P4.3, P4.4: what is not valid on the way counts only if the run comes to it.
func TestRunTooFar(t *testing.T) {
	i, g := bare()
	m := up(3500, 0)
	m.At.Y = api.MaxPlace - 4000
	for most, ok := range []bool{true, true, true, false, false} {
		end, n, e := glide.Run(i, g, m, nil, most)
		way, f := glide.Way(i, g, m, nil, most, 1)
		out, h := glide.Worn(i, g, m, nil, most)
		if ok && (n != most || len(way) != most+1 || len(out.Pebble) != 1 || e != api.OK || f != api.OK || h != api.OK) {
			t.Errorf("%d ticks have the errors %d, %d, %d", most, e, f, h)
		} else if !ok {
			refuse(t, ended{end, n}, e, api.ErrRange, "Run", most)
			refuse(t, len(way), f, api.ErrRange, "Way", most)
			refuseIce(t, out, h, api.ErrRange, "Worn", most)
		}
	}
	// A broom makes it go farther.
	m.At.Y = api.MaxPlace - 4500
	for n, want := range []api.Errno{api.OK, api.OK, api.OK, api.ErrRange} {
		_, _, e := glide.Run(i, g, m, []api.Broom{{To: 1, Strength: n}}, 100)
		if e != want {
			t.Errorf("the strength %d has the error %d; want %d", n, e, want)
		}
	}
}

// P4.3, P4.4: whatever else is there, also if the stone is at rest, has no ticks, or goes too far.
func TestRunsOfWhatIsWrong(t *testing.T) {
	i, g := bare()
	test := func(i api.Ice, g api.Grain, m api.Moving, l []api.Broom, most int) {
		t.Helper()
		end, n, e := glide.Run(i, g, m, l, most)
		refuse(t, ended{end, n}, e, api.ErrArg, "Run", i, g, m, l, most)
		way, e := glide.Way(i, g, m, l, most, 1)
		refuse(t, len(way), e, api.ErrArg, "Way", i, g, m, l, most)
		out, e := glide.Worn(i, g, m, l, most)
		refuseIce(t, out, e, api.ErrArg, "Worn", i, g, m, l, most)
	}
	gone := api.Moving{At: api.Spot{Y: api.MaxPlace}, Speed: api.Spot{Y: 5000}}
	for _, m := range []api.Moving{up(3500, 7), {Spin: 7}, gone} {
		for _, most := range []int{0, 10} {
			for _, w := range wrongIces() {
				test(w, g, m, nil, most)
			}
			for _, w := range wrongGrains() {
				test(i, w, m, nil, most)
			}
			for _, w := range wrongBrooms() {
				test(i, g, m, w, most)
			}
		}
		for _, most := range append(wrongNumbers, -1, api.MaxTicks+1) {
			test(i, g, m, nil, most)
		}
		for _, every := range append(wrongNumbers, -1, 0, api.MaxTicks+1) {
			way, e := glide.Way(i, g, m, nil, 10, every)
			refuse(t, len(way), e, api.ErrArg, "Way", m, every)
		}
	}
	for _, w := range wrongStones() {
		test(i, g, w, nil, 0)
		test(i, g, w, nil, 10)
	}
}
