package glide_test

import (
	"slices"
	"testing"

	"besom/api"
	"besom/glide"
	"besom/ice"
)

// holdIce tests that ice is as it must be.
func holdIce(t *testing.T, got api.Ice, e api.Errno, want api.Ice, what string, args ...any) {
	t.Helper()
	if !same(got, want) || e != api.OK {
		t.Errorf("%s of %v is %v, error %d; want %v", what, args, got, e, want)
	}
}

// refuseIce tests that a call has an error, and no ice beside it.
func refuseIce(t *testing.T, got api.Ice, e, want api.Errno, what string, args ...any) {
	t.Helper()
	if !same(got, api.Ice{}) || e != want {
		t.Errorf("%s of %v is %v, error %d; want the error %d", what, args, got, e, want)
	}
}

// P4.4: over the cells 0, 1; 1, 2; 1, 2 (4000 is the border of both); then it rests in the cell 2.
func TestWornExamples(t *testing.T) {
	i := api.Ice{Side: 2000, W: 1, H: 3, Pebble: []int{100, 100, 15}, Polish: []int{0, 0, 995}}
	_, g := bare()
	m := up(3500, 0)
	m.At.X = 500
	for _, c := range []struct {
		brooms         []api.Broom
		most           int
		pebble, polish []int
	}{
		{nil, 0, []int{100, 100, 15}, []int{0, 0, 995}},
		{nil, 1, []int{90, 90, 15}, []int{0, 0, 995}},
		{nil, 2, []int{90, 80, 5}, []int{0, 0, 995}},
		{nil, 3, []int{90, 70, 0}, []int{0, 0, 995}},
		{nil, 4, []int{90, 70, 0}, []int{0, 0, 995}},
		{nil, 100, []int{90, 70, 0}, []int{0, 0, 995}},
		{[]api.Broom{{From: 2, To: 3, Strength: 3}}, 100, []int{90, 70, 0}, []int{0, 3, 998}},
		{[]api.Broom{{From: 2, To: 3, Strength: 9}}, 100, []int{90, 70, 0}, []int{0, 9, 1000}},
		{[]api.Broom{{To: 3, Strength: 1}, {To: 1, Strength: 2}}, 100, []int{90, 70, 0}, []int{2, 4, 997}},
		{[]api.Broom{{From: 3, To: 9, Strength: 9}}, 100, []int{90, 70, 0}, []int{0, 0, 995}}, // it rests
	} {
		want := i
		want.Pebble, want.Polish = c.pebble, c.polish
		got, e := glide.Worn(i, g, m, c.brooms, c.most)
		holdIce(t, got, e, want, "Worn", c.brooms, c.most)
	}
	got, e := glide.Worn(i, g, api.Moving{At: m.At, Spin: 9}, []api.Broom{{To: 9, Strength: 9}}, 100)
	holdIce(t, got, e, i, "Worn of a stone at rest")
	got, e = glide.Worn(i, g, up(900, 0), []api.Broom{{To: 9, Strength: 9}}, 100)
	holdIce(t, got, e, i, "Worn of a stone that comes to rest at once")
	got, e = glide.Worn(i, g, api.Moving{At: api.Spot{X: -9000}, Speed: m.Speed}, []api.Broom{{To: 9, Strength: 9}}, 100)
	holdIce(t, got, e, i, "Worn beside the cells")
}

// P4.4: the stone goes as on the ice at the start, though it wears pebble that keeps it going.
func TestWornGoesAsBefore(t *testing.T) {
	i := api.Ice{Side: 4000, W: 1, H: 3, Pebble: []int{1000, 1000, 1000}, Polish: []int{0, 0, 0}}
	g := api.Grain{Flat: 3000, Keen: 1000, Swept: 1000, Wear: 1000}
	l := []api.Broom{{To: 9, Strength: 300}}
	m := api.Moving{At: api.Spot{X: 2000}, Speed: api.Spot{Y: 4000}}
	// 940 less each time: 3060, 5180, 6360, 6600.
	want := i
	want.Pebble, want.Polish = []int{0, 0, 1000}, []int{600, 900, 0}
	got, e := glide.Worn(i, g, m, l, 100)
	holdIce(t, got, e, want, "Worn")
}

// P4.4
func TestWorn(t *testing.T) {
	s := state(44)
	for range 2000 {
		g := s.grain()
		i, m, l, most := s.ice(g), s.stone(g), s.brooms(20), s.from(0, 40)
		if s.below(5) == 0 { // cells that go on where no place is
			m.At = api.Spot{X: api.MaxPlace - api.Fix(s.below(99*int(g.Flat))), Y: api.MaxPlace - api.Fix(s.below(99*int(g.Flat)))}
			i.Corner = api.Spot{X: api.MaxPlace - 2*i.Side, Y: api.MaxPlace - i.Side}
		}
		stones, ok := follow(i, g, m, l, most)
		got, e := glide.Worn(i, g, m, l, most)
		if !ok {
			refuseIce(t, got, e, api.ErrRange, "Worn", i, g, m, l, most)
			continue
		}
		want := clone(i)
		for k, b := range stones[1:] {
			a := stones[k]
			if a.At == b.At {
				continue
			}
			want, _ = ice.Pass(want, g, a.At, b.At)
			if n := strongest(l, k); n > 0 {
				want, _ = ice.Sweep(want, a.At, b.At, n)
			}
		}
		holdIce(t, got, e, want, "Worn", i, g, m, l, most)
	}
}

// P4.5
func TestArgumentsAndResults(t *testing.T) {
	s := state(45)
	for range 200 {
		g := s.grain()
		i, m, l := s.ice(g), s.stone(g), s.brooms(20)
		before, brooms := clone(i), slices.Clone(l)
		worn, e := glide.Worn(i, g, m, l, 30)
		rested, f := glide.Worn(i, g, m, l, 0)
		way, h := glide.Way(i, g, m, l, 30, 2)
		if e != api.OK || f != api.OK || h != api.OK {
			t.Fatalf("errors %d, %d, %d", e, f, h)
		}
		for _, out := range []api.Ice{worn, rested} {
			for c := range out.Pebble {
				out.Pebble[c], out.Polish[c] = -1, -1
			}
		}
		clear(way)
		_, n, _ := glide.Run(i, g, m, l, 30)
		_, e = glide.Tick(i, g, m, 500)
		if _, f = glide.Strength(l, 3); e != api.OK || f != api.OK {
			t.Errorf("errors %d, %d", e, f)
		}
		if !same(i, before) || !slices.Equal(l, brooms) {
			t.Fatalf("an argument was changed: %v, %v", i, l)
		}
		if again, _ := glide.Way(i, g, m, l, 30, 2); len(again) != 1+(n+1)/2 || again[0] != m.At {
			t.Errorf("the way is %v behind %d ticks", again, n)
		}
	}
}
