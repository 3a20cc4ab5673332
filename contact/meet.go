package contact

import (
	"besom/api"
	"besom/fixed"
	"besom/glide"
)

// whole is the greatest elasticity.
const whole = 1000

// reach is how far the centres of bodies that touch are at most from each other.
const reach = 2 * api.StoneRadius

// meeting is two bodies after a contact, and whether they met in it.
type meeting struct {
	a, b api.Body
	met  bool
}

// doTouch reports whether two valid bodies touch.
func doTouch(a, b api.Body) bool {
	return !a.Out && !b.Out && areNear(a.At, b.At)
}

// areNear reports whether bodies at two places touch.
func areNear(a, b api.Spot) bool {
	way := api.Spot{X: b.X - a.X, Y: b.Y - a.Y}
	// Nearly all pairs are so far from each other that no square is needed.
	if !isFrom(-reach, way.X, reach) || !isFrom(-reach, way.Y, reach) {
		return false
	}
	return way != api.Spot{} && must(fixed.Within(way, reach))
}

// meet returns two bodies that touch as they are after a contact.
func meet(a, b api.Body, elastic int) meeting {
	n := must(fixed.Unit(must(fixed.Minus(b.At, a.At))))
	r := must(fixed.Minus(a.Speed, b.Speed))
	j := must(fixed.Dot(r, n, api.Down))
	if j <= 0 {
		return meeting{a: a, b: b}
	}
	i := must(fixed.Scale(j, whole+elastic, 2*whole, api.Cut))
	p := must(fixed.Times(n, i, api.Cut))
	a.Speed = must(fixed.Minus(a.Speed, p))
	b.Speed = must(fixed.Plus(b.Speed, p))
	if glide.Check(a.Moving) != api.OK || glide.Check(b.Moving) != api.OK {
		panic(fault(api.ErrRange))
	}
	return meeting{a, b, true}
}

// isGone reports whether a place is over a line.
func isGone(at api.Spot) bool {
	const side = api.HalfWidth - api.StoneRadius
	if at.X <= -side || side <= at.X {
		return true
	}
	return at.Y > api.BackLine+api.StoneRadius || at.Y < api.FarHog-api.HouseRadius
}

// goes reports whether a body moves.
func goes(b api.Body) bool {
	return !b.Out && b.Speed != api.Spot{}
}

// removed returns a body as it is when it has gone out.
func removed(b api.Body) api.Body {
	return api.Body{Team: b.Team, N: b.N, Moving: api.Moving{At: b.At}, Out: true}
}
