package contact

import (
	"iter"
	"slices"

	"besom/api"
	"besom/glide"
	"besom/ice"
)

// rink is what scenes are played on: the ice, the brooms and the body for which they are, and how elastic bodies are.
type rink struct {
	ice          api.Ice
	grain        api.Grain
	brooms       []api.Broom
	who, elastic int
}

// played is a scene after ticks, how many there were, and their hits.
type played struct {
	scene []api.Body
	ticks int
	hits  []api.Hit
}

// isFor reports whether a rink and a scene are valid, and belong together.
func (r rink) isFor(l []api.Body) bool {
	if ice.Check(r.ice) != api.OK || ice.CheckGrain(r.grain) != api.OK || Check(l) != api.OK {
		return false
	}
	return glide.CheckBrooms(r.brooms) == api.OK && isFrom(-1, r.who, len(l)-1) && isFrom(0, r.elastic, whole)
}

// shot plays a scene up to rest, or up to so many ticks.
func (r rink) shot(l []api.Body, most int) played {
	end := played{scene: slices.Clone(l)}
	for hits := range r.ticks(end.scene, most) {
		end.ticks++
		end.hits = append(end.hits, hits...)
		if len(end.hits) > api.MaxHits {
			panic(fault(api.ErrLong))
		}
	}
	return end
}

// ticks changes a scene by the ticks of a shot, and yields the hits of each of them.
func (r rink) ticks(l []api.Body, most int) iter.Seq[[]api.Hit] {
	return func(yield func([]api.Hit) bool) {
		for tick := 0; tick < most && slices.ContainsFunc(l, goes); tick++ {
			if !yield(r.tick(l, tick)) {
				return
			}
		}
	}
}

// tick changes a scene by a tick, and returns the hits.
func (r rink) tick(l []api.Body, tick int) []api.Hit {
	for k, b := range l {
		if goes(b) {
			l[k].Moving = must(glide.Tick(under(r.ice, b.At), r.grain, b.Moving, r.strength(k, tick)))
		}
	}
	hits := collide(l, r.elastic, tick)
	for k, b := range l {
		if !b.Out && isGone(b.At) {
			l[k] = removed(b)
		}
	}
	return hits
}

// strength returns the strength of the brooms for the body k at a tick.
func (r rink) strength(k, tick int) int {
	if k != r.who {
		return 0
	}
	return must(glide.Strength(r.brooms, tick))
}

// under returns ice that has the cell in which a spot is, and no other one: a tick checks all of its ice.
func under(i api.Ice, s api.Spot) api.Ice {
	out := api.Ice{Corner: s, Side: 1, W: 1, H: 1, Pebble: []int{0}, Polish: []int{0}}
	x, y := s.X-i.Corner.X, s.Y-i.Corner.Y
	if x < 0 || y < 0 || x >= i.Side*api.Fix(i.W) || y >= i.Side*api.Fix(i.H) {
		return out
	}
	c := int(y/i.Side)*i.W + int(x/i.Side)
	out.Pebble[0], out.Polish[0] = i.Pebble[c], i.Polish[c]
	return out
}

// collide changes a scene by its rounds of contacts, and returns the hits.
func collide(l []api.Body, elastic, tick int) []api.Hit {
	var hits []api.Hit
	try := func(p pair) bool {
		m := meet(l[p.a], l[p.b], elastic)
		l[p.a], l[p.b] = m.a, m.b
		if m.met {
			hits = append(hits, api.Hit{Tick: tick, A: p.a, B: p.b})
		}
		return m.met
	}
	pairs := touching(l) // no contact changes where bodies are
rounds:
	for range api.MaxPasses {
		met := false
		for _, p := range pairs {
			met = try(p) || met
		}
		if !met {
			break rounds
		}
	}
	return hits
}

// pair is the places of two bodies in a scene; a is less.
type pair struct{ a, b int }

// touching returns the pairs of bodies that touch, by a, then by b.
func touching(l []api.Body) []pair {
	var out []pair
	for a := range l {
		for b := a + 1; b < len(l); b++ {
			if doTouch(l[a], l[b]) {
				out = append(out, pair{a, b})
			}
		}
	}
	return out
}
