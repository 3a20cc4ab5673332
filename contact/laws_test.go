package contact_test

import (
	"math/big"
	"slices"
	"testing"

	"besom/api"
	"besom/contact"
	"besom/glide"
)

// size returns a number without its sign.
func size(n api.Fix) int { return int(max(n, -n)) }

// energy returns the sum of the squares of two bodies' speeds.
func energy(a, b api.Body) *big.Int {
	return new(big.Int).Add(square(a.Speed), square(b.Speed))
}

// P5.6: a contact keeps momentum, and makes no energy but by rounding.
func TestLawOfContacts(t *testing.T) {
	s := state(56)
	met := 0
	for range 60000 {
		a, b := body(0, 0, 0, 0, 0, 0), body(1, 0, 0, 0, 0, 0)
		b.At = s.around([]int{2, 300, 200 * api.MM}[s.below(3)])
		for _, m := range []*api.Body{&a, &b} {
			m.Speed = s.around([]int{3, 100, 30000, 30 * api.MM, fast / 2}[s.below(5)])
		}
		if b.At == none {
			continue
		}
		l := []api.Body{a, b}
		before, _ := contact.Momentum(l)
		x, y, is, e := contact.Meet(a, b, s.elastic())
		l = []api.Body{x, y}
		if after, _ := contact.Momentum(l); after != before || e != api.OK {
			t.Errorf("%v and %v become %v and %v, error %d", a, b, x, y, e)
		}
		if is {
			met++
		}
		r := minus(a.Speed, b.Speed)
		more := mul(4*(size(r.X)+size(r.Y)) + 8)
		if more.Add(more, energy(a, b)).Cmp(energy(x, y)) < 0 {
			t.Errorf("%v and %v become %v and %v: too much energy", a, b, x, y)
		}
	}
	if met < 10000 {
		t.Errorf("only %d met", met)
	}
}

// P5.6: the contacts of a tick keep momentum, as long as nothing is braked, or goes out.
func TestLawOfMomentum(t *testing.T) {
	s := state(57)
	for range 2000 {
		a := game{l: s.bodies(api.Spot{Y: -9000 * api.MM}), elastic: s.elastic(), who: -1}
		a.i, a.g = slick()
		out, _, e := contact.Tick(a.i, a.g, a.l, nil, -1, a.elastic, 0)
		if e != api.OK || !slices.EqualFunc(a.l, out, func(a, b api.Body) bool { return a.Out == b.Out }) {
			continue
		}
		before, _ := contact.Momentum(a.l)
		after, e := contact.Momentum(out)
		hold(t, after, e, before, "Momentum", a.l, out)
	}
}

// P5.6: a body that nothing touches goes as it goes alone; one at rest that is not hit stays.
func TestLawOfBodiesAlone(t *testing.T) {
	s := state(58)
	alone := 0
	for range 2000 {
		a := s.game(api.Spot{Y: -9000 * api.MM})
		most := s.from(0, 20)
		out, n, hits, e := contact.Shot(a.i, a.g, a.l, a.brooms, a.who, a.elastic, most)
		if e != api.OK {
			continue
		}
		for k, b := range a.l {
			if b.Out || out[k].Out || slices.ContainsFunc(hits, func(h api.Hit) bool { return h.A == k || h.B == k }) {
				continue
			}
			want, l := b.Moving, a.brooms
			if k != a.who {
				l = nil
			}
			if b.Speed != none {
				alone++
				want, _, _ = glide.Run(a.i, a.g, b.Moving, l, n)
			}
			if out[k].Moving != want {
				t.Errorf("%v comes to %v in the shot, alone to %v", b, out[k], want)
			}
		}
	}
	if alone < 1000 {
		t.Errorf("only %d went alone", alone)
	}
}

// P5.6: a shot is the same each time, and mirrored it is the mirrored one.
func TestLawOfMirrors(t *testing.T) {
	s := state(59)
	for range 1000 {
		a, most := s.game(s.middle()), s.from(0, 40)
		a.i = s.even()
		out, n, hits, e := contact.Shot(a.i, a.g, a.l, a.brooms, a.who, a.elastic, most)
		shots(t, a, most, out, n, hits, e)
		a.l = mirrored(a.l)
		shots(t, a, most, mirrored(out), n, hits, e)
	}
}

// mirrored returns a scene with left and right, and the spins, turned round.
func mirrored(l []api.Body) []api.Body {
	l = slices.Clone(l)
	for k := range l {
		b := &l[k]
		b.At.X, b.Speed.X, b.Spin = -b.At.X, -b.Speed.X, -b.Spin
	}
	return l
}

// P5.6: hits have rising ticks, and bodies of the scene.
func TestLawOfHits(t *testing.T) {
	s := state(60)
	for range 1000 {
		a := s.game(s.middle())
		_, n, hits, _ := contact.Shot(a.i, a.g, a.l, a.brooms, a.who, a.elastic, 40)
		last := 0
		for _, h := range hits {
			if h.Tick < last || h.Tick >= n || h.A < 0 || h.A >= h.B || h.B >= len(a.l) {
				t.Errorf("hits %v of %v", hits, a)
			}
			last = h.Tick
		}
	}
}
