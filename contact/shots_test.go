package contact_test

import (
	"slices"
	"testing"

	"besom/api"
	"besom/contact"
)

// shots tests what Shot returns.
func shots(t *testing.T, a game, most int, scene []api.Body, n int, hits []api.Hit, want api.Errno) {
	t.Helper()
	out, k, got, e := contact.Shot(a.i, a.g, a.l, a.brooms, a.who, a.elastic, most)
	if !slices.Equal(out, scene) || k != n || !slices.Equal(got, hits) || e != want {
		t.Errorf("Shot of %v, at most %d ticks, is %v, %d ticks, hits %v, error %d; want %v, %d ticks, hits %v, error %d", a, most, out, k, got, e, scene, n, hits, want)
	}
}

// P5.3
func TestShotExamples(t *testing.T) {
	for _, c := range []struct {
		l    []api.Body
		most int
		want []api.Body
		n    int
		hits []api.Hit
	}{
		{nil, 6000, nil, 0, nil},
		{[]api.Body{on(0, 0, 3500)}, 0, []api.Body{on(0, 0, 3500)}, 0, nil},
		{[]api.Body{on(0, 0, 3500)}, 2, []api.Body{on(0, 4000, 1500)}, 2, nil},
		{[]api.Body{spun(on(0, 0, 3500), 0)}, 6000, []api.Body{on(0, 4500, 0)}, 4, nil},
		// Without a tick nothing goes out, and spins stay.
		{[]api.Body{spun(on(0, far, 0), 7)}, 6000, []api.Body{spun(on(0, far, 0), 7)}, 0, nil},
		{[]api.Body{lost(on(0, 0, 0)), on(1, 0, 2000)}, 6000, []api.Body{lost(on(0, 0, 0)), on(1, 1000, 0)}, 2, nil},
		// The tick in which the last one goes out is the last one.
		{[]api.Body{body(0, 0, 2230*api.MM-5000, 0, 4000, 0)}, 6000, []api.Body{lost(body(0, 0, 2230*api.MM, 0, 0, 0))}, 2, nil},
		// It is hit behind the tick 1, and is braked from the tick 2 on.
		{[]api.Body{on(0, 0, 3500), spun(on(1, reach+4000, 0), 5)}, 6000, []api.Body{on(0, 4000, 0), on(1, reach+4500, 0)}, 4, []api.Hit{{Tick: 1, B: 1}}},
	} {
		shots(t, lone(c.l...), c.most, c.want, c.n, c.hits, api.OK)
	}
}

// P5.3: brooms are for one body, by the ticks of the shot.
func TestShotWithBrooms(t *testing.T) {
	a := lone(on(0, 0, 3000), body(1, 0, 1000*api.MM, 0, 0, 3000))
	a.brooms, a.who = []api.Broom{{From: 1, To: 2, Strength: 1000}}, 1
	shots(t, a, 6000, []api.Body{on(0, 3000, 0), body(1, 0, 1000*api.MM, 2000+1200+200, 0, 0)}, 4, nil, api.OK)
}

// P5.3
func TestShot(t *testing.T) {
	s := state(54)
	ended, wild := 0, 0
	for range 1500 {
		a, most := s.game(s.middle()), s.from(0, 60)
		if s.below(2) == 0 {
			a.g.Flat, a.g.Keen, a.g.Swept = api.MaxSlow, api.MaxSlow/2, 0
		}
		l, n, hits, e := a.shot(most)
		shots(t, a, most, l, n, hits, e)
		if n < most && n > 0 {
			ended++
		}
		if e == api.ErrRange {
			wild++
		}
	}
	if ended < 50 || wild < 10 {
		t.Errorf("only %d shots ended, and %d were not valid", ended, wild)
	}
}

// P5.3: 4096 hits are kept.
func TestShotOfManyHits(t *testing.T) {
	a := game{l: []api.Body{on(0, 0, 1), on(1, 1000, 0)}, who: -1}
	a.i, a.g = slick()
	end := slices.Clone(a.l)
	end[0].At.Y = 512
	var hits []api.Hit
	for k := range 512 { // 8 in each tick, which change nothing
		hits = append(hits, slices.Repeat([]api.Hit{{Tick: k, B: 1}}, 8)...)
	}
	shots(t, a, 512, end, 512, hits, api.OK)
	shots(t, a, 513, nil, 0, nil, api.ErrLong)
	shots(t, a, 6000, nil, 0, nil, api.ErrLong)
}

// P5.3: the first error decides: a contact of the first two that is too hard, or too many hits of the others, in the tick 10.
func TestShotEndsWithTheFirstError(t *testing.T) {
	a := game{who: -1}
	a.i, a.g = slick()
	for _, c := range []struct {
		clash, most int
		want        api.Errno
	}{
		{0, 6000, api.ErrRange}, {9, 6000, api.ErrRange}, {10, 6000, api.ErrRange}, {11, 6000, api.ErrLong}, {12, 6000, api.ErrLong},
		{9, 9, api.OK}, {11, 10, api.OK}, {11, 11, api.ErrLong}, {10, 11, api.ErrRange},
	} {
		a.l = append(clash(c.clash), crowd()...)
		out, n, hits, e := contact.Shot(a.i, a.g, a.l, nil, -1, 0, c.most)
		if e != c.want || (e != api.OK && len(out)+n+len(hits) > 0) || (e == api.OK && len(hits) != c.most*392) {
			t.Errorf("with the clash in the tick %d, at most %d: %d ticks, %d hits, error %d", c.clash, c.most, n, len(hits), e)
		}
	}
}

// clash returns two bodies that go along the sheet as fast as may be, and touch in a tick: aside, so that it makes one of them faster.
func clash(tick int) []api.Body {
	const x, y = 1000 * api.MM, 1900 * api.MM
	gap := api.Fix(210*api.MM + 100*(tick+1))
	return []api.Body{body(0, 0, x, y, 50, -fast), body(1, 0, x+gap, y+200*api.MM, -50, -fast)}
}

// crowd returns 14 bodies that touch each other: 7 go to the other 7, and each of these 49 pairs meets 8 times in a tick, which changes nothing.
func crowd() []api.Body {
	var l []api.Body
	for k := range 7 {
		l = append(l, on(k+1, api.Fix(k)*1000, 1))
	}
	for k := range 7 {
		l = append(l, body(1, k+1, 0, api.Fix(k+10)*1000, 0, 0))
	}
	return l
}
