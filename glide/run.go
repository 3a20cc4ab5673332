package glide

import (
	"iter"

	"besom/api"
	"besom/ice"
)

// run is a stone that is let go on ice, the brooms, and the most ticks that it may have.
type run struct {
	ice    api.Ice
	grain  api.Grain
	stone  api.Moving
	brooms []api.Broom
	most   int
}

// step is a tick of a run: how many there are with it, its strength, where the stone was, and the stone behind it.
type step struct {
	number, strength int
	from             api.Spot
	after            api.Moving
}

// isValid reports whether all parts of a run are valid.
func (r run) isValid() bool {
	if ice.Check(r.ice) != api.OK || ice.CheckGrain(r.grain) != api.OK {
		return false
	}
	return Check(r.stone) == api.OK && CheckBrooms(r.brooms) == api.OK && isFrom(0, r.most, api.MaxTicks)
}

// steps yields the ticks of a run that is valid.
func (r run) steps() iter.Seq[step] {
	return func(yield func(step) bool) {
		m := r.stone
		for tick := 0; tick < r.most && !isAtRest(m); tick++ {
			s := step{number: tick + 1, strength: strength(r.brooms, tick), from: m.At}
			m = ticked(r.ice, r.grain, m, s.strength)
			s.after = m
			if !yield(s) {
				return
			}
		}
	}
}

// through returns what the steps of a run, taken one by one, make of what is there at its start.
func through[T any](r run, start T, take func(T, step) T) (T, api.Errno) {
	return attempt(func() T {
		need(r.isValid())
		out := start
		for s := range r.steps() {
			out = take(out, s)
		}
		return out
	})
}

// isAtRest reports whether a stone is at rest.
func isAtRest(m api.Moving) bool {
	return m.Speed == api.Spot{}
}

// strength returns the strength of valid brooms at a tick.
func strength(l []api.Broom, tick int) int {
	most := 0
	for _, b := range l {
		if b.From <= tick && tick < b.To {
			most = max(most, b.Strength)
		}
	}
	return most
}
