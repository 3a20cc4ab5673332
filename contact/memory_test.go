package contact_test

import (
	"slices"
	"testing"

	"besom/api"
	"besom/contact"
)

// P5.5: all that a function is given stays as it is, behind its end too.
func TestArgumentsAreRead(t *testing.T) {
	s := state(55)
	for range 300 {
		a := s.game(s.middle())
		a.l = append(a.l, api.Body{Team: 9})[:len(a.l)]
		a.brooms = append(a.brooms, api.Broom{From: 9})[:len(a.brooms)]
		l, brooms := slices.Clone(a.l[:len(a.l)+1]), slices.Clone(a.brooms[:len(a.brooms)+1])
		pebble, polish := slices.Clone(a.i.Pebble), slices.Clone(a.i.Polish)
		contact.Check(a.l)
		contact.Tick(a.i, a.g, a.l, a.brooms, a.who, a.elastic, 3)
		contact.Shot(a.i, a.g, a.l, a.brooms, a.who, a.elastic, 30)
		contact.Momentum(a.l)
		contact.Still(a.l)
		contact.Stones(a.l)
		if !slices.Equal(l, a.l[:len(l)]) || !slices.Equal(brooms, a.brooms[:len(brooms)]) {
			t.Errorf("%v and %v became %v and %v", l, brooms, a.l, a.brooms)
		}
		if !slices.Equal(pebble, a.i.Pebble) || !slices.Equal(polish, a.i.Polish) {
			t.Errorf("the ice became %v", a.i)
		}
	}
	stones := []api.Stone{{N: 1}, {N: 2}, {N: 3}}
	contact.Place(stones[:2])
	if !slices.Equal(stones, []api.Stone{{N: 1}, {N: 2}, {N: 3}}) {
		t.Errorf("the stones became %v", stones)
	}
}

// P5.5: results share nothing with arguments, nor with each other.
func TestResultsAreNew(t *testing.T) {
	for _, a := range []game{lone(on(0, 0, 5000), on(1, reach+4000, 0)), lone(on(0, 0, 0))} {
		first, _, _ := contact.Tick(a.i, a.g, a.l, nil, -1, 1000, 0)
		again, _, _ := contact.Tick(a.i, a.g, a.l, nil, -1, 1000, 0)
		shot, _, hits, _ := contact.Shot(a.i, a.g, a.l, nil, -1, 1000, 6000)
		none, _, _, _ := contact.Shot(a.i, a.g, a.l, nil, -1, 1000, 0)
		for _, l := range [][]api.Body{first, shot, none} {
			l[0].N = 5
		}
		for k := range hits {
			hits[k] = api.Hit{}
		}
		if a.l[0].N != 0 || again[0].N != 0 {
			t.Errorf("%v, %v share memory", a.l, again)
		}
		if _, _, more, _ := contact.Shot(a.i, a.g, a.l, nil, -1, 1000, 6000); len(more) > 0 && more[0].B != 1 {
			t.Errorf("hits %v share memory", more)
		}
	}
}
