// Package sheet is layer 2: see shared/doc/02-sheet.md.
package sheet

import "besom/api"

// How two stones lie.
const (
	overlapping = iota - 1
	touching
	apart
)

// CheckSpot reports whether a place is valid.
func CheckSpot(p api.Spot) bool {
	return isWithin(p, api.MaxPlace)
}

// Zone returns where a stone is.
func Zone(p api.Spot) (int, api.Errno) {
	if !CheckSpot(p) {
		return 0, api.ErrArg
	}
	switch {
	case isOut(p):
		return api.Away, api.OK
	case isInHouse(p):
		return api.House, api.OK
	case p.Y+api.StoneRadius < 0:
		return api.Guard, api.OK
	}
	return api.Behind, api.OK
}

// OnCentre reports whether a stone is on the centre line.
func OnCentre(p api.Spot) (bool, api.Errno) {
	if !CheckSpot(p) {
		return false, api.ErrArg
	}
	return !isOut(p) && size(p.X) <= api.StoneRadius, api.OK
}

// Contact returns whether stones overlap, touch, or neither.
func Contact(a, b api.Spot) (int, api.Errno) {
	if !CheckSpot(a) || !CheckSpot(b) {
		return 0, api.ErrArg
	}
	return contact(a, b), api.OK
}

// contact tells how stones at valid places lie. Those that are far apart in a coordinate are told first: the square of their distance may not fit.
func contact(a, b api.Spot) int {
	const reach = 2 * api.StoneRadius
	way := api.Spot{X: a.X - b.X, Y: a.Y - b.Y}
	if !isWithin(way, reach) {
		return apart
	}
	switch n := square(way); {
	case n < reach*reach:
		return overlapping
	case n == reach*reach:
		return touching
	}
	return apart
}

// isOut reports whether a stone at a valid place is out.
func isOut(p api.Spot) bool {
	const r = api.StoneRadius
	return size(p.X)+r >= api.HalfWidth || p.Y-r > api.BackLine || p.Y-r <= api.HogLine
}

// isInPlay reports whether a place is valid, and a stone there in play.
func isInPlay(p api.Spot) bool {
	return CheckSpot(p) && !isOut(p)
}

// isInHouse reports whether a stone that is in play is in the house.
func isInHouse(p api.Spot) bool {
	const reach = api.HouseRadius + api.StoneRadius
	return square(p) <= reach*reach
}

// isWithin reports whether both coordinates are from -most to most.
func isWithin(p api.Spot, most api.Fix) bool {
	return -most <= p.X && p.X <= most && -most <= p.Y && p.Y <= most
}

// square returns the square of a length. It fits for each place that is in play.
func square(p api.Spot) api.Fix {
	return p.X*p.X + p.Y*p.Y
}

// size returns a coordinate of a valid place without its sign.
func size(n api.Fix) api.Fix {
	return max(n, -n)
}
