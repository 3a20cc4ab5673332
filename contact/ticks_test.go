package contact_test

import (
	"slices"
	"testing"

	"besom/api"
	"besom/contact"
)

const reach = 290 * api.MM // of two bodies that touch

// ticks tests what Tick returns.
func ticks(t *testing.T, a game, tick int, scene []api.Body, hits []api.Hit, want api.Errno) {
	t.Helper()
	out, got, e := contact.Tick(a.i, a.g, a.l, a.brooms, a.who, a.elastic, tick)
	if !slices.Equal(out, scene) || !slices.Equal(got, hits) || e != want {
		t.Errorf("Tick %d of %v is %v, hits %v, error %d; want %v, hits %v, error %d", tick, a, out, got, e, scene, hits, want)
	}
}

// lone returns a game on bare ice, of elastic bodies, without brooms.
func lone(l ...api.Body) game {
	i, g := bare()
	return game{i: i, g: g, l: l, who: -1, elastic: 1000}
}

// P5.3
func TestTickExamples(t *testing.T) {
	slow := api.Fix(-3000 * api.MM)
	for _, c := range []struct {
		l, want []api.Body
		hits    []api.Hit
	}{
		{nil, nil, nil},
		{[]api.Body{on(0, 0, 5000)}, []api.Body{on(0, 4000, 4000)}, nil},
		{[]api.Body{spun(on(0, 0, 1000), 7)}, []api.Body{on(0, 0, 0)}, nil},                   // it comes to rest
		{[]api.Body{spun(on(0, 0, 0), 7)}, []api.Body{spun(on(0, 0, 0), 7)}, nil},             // it is at rest before
		{[]api.Body{lost(on(0, 0, 0))}, []api.Body{lost(on(0, 0, 0))}, nil},                   // it is out, and not over a line
		{[]api.Body{lost(on(0, far, 0))}, []api.Body{lost(on(0, far, 0))}, nil},               // out and over a line
		{[]api.Body{spun(on(0, far, 0), -3)}, []api.Body{lost(on(0, far, 0))}, nil},           // over a line, at rest
		{[]api.Body{spun(on(0, -far, 1), -3)}, []api.Body{lost(on(0, -far, 0))}, nil},         // likewise, and it comes to rest
		{[]api.Body{on(0, slow, 90000)}, []api.Body{on(0, slow+89000, 89000)}, nil},           // no cell is there
		{[]api.Body{on(0, 0, 0), on(1, 100, 0)}, []api.Body{on(0, 0, 0), on(1, 100, 0)}, nil}, // they touch, at rest
		// It touches only where it comes to, and then at once.
		{[]api.Body{on(0, 0, 5000), spun(on(1, reach+4000, 0), 9)}, []api.Body{on(0, 4000, 0), spun(on(1, reach+4000, 4000), 9)}, []api.Hit{{Tick: 3, A: 0, B: 1}}},
		{[]api.Body{on(0, 0, 5000), on(1, reach+4001, 0)}, []api.Body{on(0, 4000, 4000), on(1, reach+4001, 0)}, nil},
		{[]api.Body{on(1, reach+4000, 0), on(0, 0, 5000)}, []api.Body{on(1, reach+4000, 4000), on(0, 4000, 0)}, []api.Hit{{Tick: 3, A: 0, B: 1}}},
		{[]api.Body{on(0, 0, 5000), lost(on(1, reach, 0))}, []api.Body{on(0, 4000, 4000), lost(on(1, reach, 0))}, nil},
		// What comes to rest in the tick hits nothing.
		{[]api.Body{on(0, 0, 1000), on(1, 100, 0)}, []api.Body{on(0, 0, 0), on(1, 100, 0)}, nil},
		// At one place they do not touch.
		{[]api.Body{on(0, 0, 5000), on(1, 4000, 0)}, []api.Body{on(0, 4000, 4000), on(1, 4000, 0)}, nil},
	} {
		ticks(t, lone(c.l...), 3, c.want, c.hits, api.OK)
	}
}

// P5.3: a body goes out where it comes to, with the tick that brought it there.
func TestTickOverLines(t *testing.T) {
	const back, side, start = 1974 * api.MM, 2230 * api.MM, -30173 * api.MM
	for _, c := range []struct{ b, want api.Body }{
		{on(0, back-4000, 5000), on(0, back, 4000)},
		{spun(on(0, back-3999, 5000), 9), lost(on(0, back+1, 0))},
		{on(0, start+4000, -5000), on(0, start, -4000)},
		{on(0, start+3999, -5000), lost(on(0, start-1, 0))},
		{body(1, 0, side-4001, 0, 5000, 0), body(1, 0, side-1, 0, 4000, 0)},
		{body(1, 0, side-4000, 0, 5000, 0), lost(body(1, 0, side, 0, 0, 0))},
		{body(1, 0, 4001-side, 0, -5000, 0), body(1, 0, 1-side, 0, -4000, 0)},
		{body(1, 0, 4000-side, 0, -5000, 0), lost(body(1, 0, -side, 0, 0, 0))},
	} {
		ticks(t, lone(c.b), 0, []api.Body{c.want}, nil, api.OK)
	}
	// Both are hit before they go out.
	a, b := on(0, back-3000, 5000), spun(on(1, back+reach+1000, 0), 8)
	ticks(t, lone(a, b), 9, []api.Body{lost(on(0, back+1000, 0)), lost(on(1, back+reach+1000, 0))}, []api.Hit{{Tick: 9, B: 1}}, api.OK)
}

// P5.3: contacts in their order, as many rounds of them as it takes.
func TestTickInRounds(t *testing.T) {
	row := func(speeds ...api.Fix) []api.Body {
		var l []api.Body
		for k, v := range speeds {
			l = append(l, on(k, api.Fix(k)*reach, v))
		}
		return l
	}
	a := game{elastic: 1000, who: -1}
	a.i, a.g = slick()
	// The speed goes along the row: in one round, if it goes by rising pairs, and in a round each otherwise.
	a.l = row(0, 0, 0, 0)
	a.l[0].At.Y, a.l[0].Speed.Y = -10, 10
	want := row(0, 0, 0, 10)
	ticks(t, a, 7, want, []api.Hit{{Tick: 7, A: 0, B: 1}, {Tick: 7, A: 1, B: 2}, {Tick: 7, A: 2, B: 3}}, api.OK)
	a.l = row(0, 0, 0, 0)
	a.l[3].At.Y, a.l[3].Speed.Y = 3*reach+10, -10
	ticks(t, a, 6000, row(-10, 0, 0, 0), []api.Hit{{Tick: 6000, A: 2, B: 3}, {Tick: 6000, A: 1, B: 2}, {Tick: 6000, A: 0, B: 1}}, api.OK)
	// A pair that meets, and changes nothing, meets in eight rounds.
	a.l, a.elastic = []api.Body{on(0, -1, 1), on(1, 100, 0)}, 0
	ticks(t, a, 0, []api.Body{on(0, 0, 1), on(1, 100, 0)}, slices.Repeat([]api.Hit{{B: 1}}, 8), api.OK)
	// Of three that touch each other, the pairs come by the lesser place, then by the greater one.
	a.l, a.elastic = []api.Body{on(0, -2, 2), on(1, 99, 1), on(2, 200, 0)}, 1000
	want = []api.Body{on(0, 0, 0), on(1, 100, 1), on(2, 200, 2)}
	ticks(t, a, 0, want, []api.Hit{{A: 0, B: 1}, {A: 0, B: 2}, {A: 1, B: 2}}, api.OK)
}

// P5.3: nine rounds would be more than there are.
func TestTickInEightRounds(t *testing.T) {
	a := game{elastic: 1000, who: -1}
	a.i, a.g = slick()
	for k := range 11 { // the last one hits: its speed goes one pair a round, from the greatest place on
		a.l = append(a.l, body(k/8, k%8, 0, api.Fix(k-8)*reach, 0, 0))
	}
	a.l[10].At.Y, a.l[10].Speed.Y = 2*reach+10, -10
	want := slices.Clone(a.l)
	want[10].At.Y, want[10].Speed.Y, want[2].Speed.Y = 2*reach, 0, -10
	var hits []api.Hit
	for k := range 8 {
		hits = append(hits, api.Hit{Tick: 1, A: 9 - k, B: 10 - k})
	}
	if gone(want[10].At) {
		t.Fatal("the last one is gone")
	}
	ticks(t, a, 1, want, hits, api.OK)
}

// P5.3: brooms are for one body, at their ticks.
func TestTickWithBrooms(t *testing.T) {
	l := []api.Body{body(0, 0, 0, 0, 0, 10000), body(1, 0, 1000*api.MM, 0, 0, 10000), body(1, 1, -1000*api.MM, 0, 0, 0)}
	a := lone(l...)
	a.brooms = []api.Broom{{From: 2, To: 4, Strength: 1000}, {From: 3, To: 6000, Strength: 500}}
	for _, c := range []struct {
		who, tick int
		first     api.Fix
		second    api.Fix
	}{
		{-1, 2, 9000, 9000}, {0, 2, 9200, 9000}, {1, 2, 9000, 9200}, {2, 2, 9000, 9000}, {0, 1, 9000, 9000}, {0, 3, 9200, 9000},
		{0, 4, 9100, 9000}, {1, 5999, 9000, 9100}, {1, 6000, 9000, 9000}, {0, 0, 9000, 9000},
	} {
		want := slices.Clone(l)
		want[0].At.Y, want[0].Speed.Y, want[1].At.Y, want[1].Speed.Y = c.first, c.first, c.second, c.second
		a.who = c.who
		ticks(t, a, c.tick, want, nil, api.OK)
	}
}

// P5.3: each body goes on the cell on which it is.
func TestTickOverCells(t *testing.T) {
	i := api.Ice{Corner: api.Spot{X: -50, Y: 70}, Side: 5000, W: 2, H: 3, Pebble: []int{1000, 0, 0, 0, 500, 0}, Polish: []int{0, 1000, 0, 500, 0, 0}}
	g := api.Grain{Flat: 1000, Keen: 400, Swept: 500}
	for _, c := range []struct{ x, y, brake api.Fix }{
		{-50, 70, 400}, {4949, 5069, 400}, {4950, 70, 500}, {9949, 5069, 500}, {-50, 5070, 1000}, {4950, 5070, 750}, {9949, 10069, 750}, {0, 10070, 700}, {-50, 15069, 700},
		{-51, 70, 1000}, {-50, 69, 1000}, {9950, 70, 1000}, {0, 15070, 1000}, {-51, 5070, 1000}, {9950, 5070, 1000}, {9950, 0, 1000},
	} {
		a := game{i: i, g: g, l: []api.Body{body(1, 2, c.x, c.y, 0, 20000)}, who: -1}
		ticks(t, a, 0, []api.Body{body(1, 2, c.x, c.y+20000-c.brake, 0, 20000-c.brake)}, nil, api.OK)
	}
}

// P5.3
func TestTick(t *testing.T) {
	s := state(53)
	met, wild := 0, 0
	for range 20000 {
		a, tick := s.game(s.middle()), s.from(0, 40)
		l, hits, ok := a.tick(a.l, tick)
		if !ok {
			wild++
			ticks(t, a, tick, nil, nil, api.ErrRange)
			continue
		}
		met += len(hits)
		ticks(t, a, tick, l, hits, api.OK)
	}
	if met < 10000 || wild < 100 {
		t.Errorf("only %d met, and %d ticks were not valid", met, wild)
	}
}

// P5.3: a tick of a body that goes too far, before all contacts; a contact that makes a speed too great.
func TestTickOutOfRange(t *testing.T) {
	const d = 100 * api.MM
	i, g := slick()
	clash := []api.Body{body(0, 0, 0, 0, fast, -fast), body(1, 0, 2*fast+d, d, -fast, -fast)}
	for k := range clash {
		clash[k].At.Y += fast
	}
	for _, c := range []struct {
		l    []api.Body
		want api.Errno
	}{
		{[]api.Body{on(0, far, 1)}, api.ErrRange},
		{[]api.Body{on(0, far, 0)}, api.OK},
		{[]api.Body{on(0, far-1, 1)}, api.OK},
		{[]api.Body{on(0, 0, 0), body(0, 1, -far, 0, -1, 0)}, api.ErrRange},
		{clash, api.ErrRange},
	} {
		out, hits, e := contact.Tick(i, g, c.l, nil, -1, 1000, 0)
		if e != c.want || (e != api.OK && len(out)+len(hits) > 0) {
			t.Errorf("Tick of %v is %v, hits %v, error %d", c.l, out, hits, e)
		}
		out, n, hits, e := contact.Shot(i, g, c.l, nil, -1, 1000, 1)
		if e != c.want || (e != api.OK && len(out)+len(hits)+n > 0) {
			t.Errorf("Shot of %v is %v, %d ticks, hits %v, error %d", c.l, out, n, hits, e)
		}
	}
}

// wrong returns games that are not valid, each for one reason.
func (a game) wrong() []game {
	var out []game
	add := func(change func(b *game)) {
		b := a
		change(&b)
		out = append(out, b)
	}
	for _, w := range wrongIces() {
		add(func(b *game) { b.i = w })
	}
	for _, w := range wrongGrains() {
		add(func(b *game) { b.g = w })
	}
	for _, w := range wrongScenes() {
		add(func(b *game) { b.l, b.who = w, -1 })
	}
	for _, w := range wrongBrooms() {
		add(func(b *game) { b.brooms = w })
		add(func(b *game) { b.brooms, b.who = w, -1 })
	}
	for _, n := range append(wrongNumbers, -2, len(a.l)) {
		add(func(b *game) { b.who = n })
	}
	for _, n := range append(wrongNumbers, -1, 1001) {
		add(func(b *game) { b.elastic = n })
	}
	return out
}

// P5.3: what is wrong comes before all that a tick does, also if no tick is needed.
func TestTickOfWhatIsWrong(t *testing.T) {
	for _, l := range [][]api.Body{{on(0, 0, 5000), on(1, reach, 0)}, {on(0, far, 5000)}, {on(0, 0, 0)}, nil} {
		a := lone(l...)
		for _, w := range a.wrong() {
			ticks(t, w, 0, nil, nil, api.ErrArg)
			for _, most := range []int{0, 1} {
				shots(t, w, most, nil, 0, nil, api.ErrArg)
			}
		}
		for _, n := range append(wrongNumbers, -1, api.MaxTicks+1) {
			ticks(t, a, n, nil, nil, api.ErrArg)
			shots(t, a, n, nil, 0, nil, api.ErrArg)
		}
	}
}
