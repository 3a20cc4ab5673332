package ice

import (
	"iter"
	"slices"

	"besom/api"
)

// Touched returns the cells that a way touches.
func Touched(i api.Ice, from, to api.Spot) ([]int, api.Errno) {
	if !areValid(i, from, to) {
		return nil, api.ErrArg
	}
	return slices.Collect(touched(i, from, to)), api.OK
}

// Pass returns the ice after a stone.
func Pass(i api.Ice, g api.Grain, from, to api.Spot) (api.Ice, api.Errno) {
	if !areValid(i, from, to) || CheckGrain(g) != api.OK {
		return api.Ice{}, api.ErrArg
	}
	i.Pebble = changed(i.Pebble, touched(i, from, to), func(n int) int { return max(n-g.Wear, 0) })
	i.Polish = slices.Clone(i.Polish)
	return i, api.OK
}

// Sweep returns the ice after brooms.
func Sweep(i api.Ice, from, to api.Spot, strength int) (api.Ice, api.Errno) {
	if !areValid(i, from, to) || !isGrain(strength) {
		return api.Ice{}, api.ErrArg
	}
	i.Pebble = slices.Clone(i.Pebble)
	i.Polish = changed(i.Polish, touched(i, from, to), func(n int) int { return min(n+strength, api.MaxGrain) })
	return i, api.OK
}

// Fade returns the ice some time later.
func Fade(i api.Ice, by int) (api.Ice, api.Errno) {
	if !areValid(i) || !isGrain(by) {
		return api.Ice{}, api.ErrArg
	}
	i.Pebble = slices.Clone(i.Pebble)
	i.Polish = changed(i.Polish, all(i), func(n int) int { return max(n-by, 0) })
	return i, api.OK
}

// Scrape returns the ice after it was scraped.
func Scrape(i api.Ice, low, high api.Spot, depth int) (api.Ice, api.Errno) {
	if !areValid(i, low, high) || !isBox(low, high) || !isGrain(depth) {
		return api.Ice{}, api.ErrArg
	}
	i.Pebble = changed(i.Pebble, boxed(i, low, high), func(n int) int { return min(n, depth) })
	i.Polish = changed(i.Polish, boxed(i, low, high), func(int) int { return 0 })
	return i, api.OK
}

// Spray returns the ice after new pebble.
func Spray(i api.Ice, low, high api.Spot, drops, turn int) (api.Ice, api.Errno) {
	if !areValid(i, low, high) || !isBox(low, high) || !isGrain(drops) || !isFrom(0, turn, 1) {
		return api.Ice{}, api.ErrArg
	}
	wet := only(boxed(i, low, high), func(c int) bool { return (c%i.W+c/i.W+turn)%2 == 0 })
	i.Pebble = changed(i.Pebble, wet, func(n int) int { return min(n+drops, api.MaxGrain) })
	i.Polish = slices.Clone(i.Polish)
	return i, api.OK
}

// Mean returns the sum of the pebble in a box, and how many cells it has.
func Mean(i api.Ice, low, high api.Spot) (sum, cells int, e api.Errno) {
	if !areValid(i, low, high) || !isBox(low, high) {
		return 0, 0, api.ErrArg
	}
	for c := range boxed(i, low, high) {
		sum += i.Pebble[c]
		cells++
	}
	return sum, cells, api.OK
}

// isBox reports whether two spots are the ends of a box.
func isBox(low, high api.Spot) bool {
	return low.X <= high.X && low.Y <= high.Y
}

// changed returns a copy of a list in which the elements at some places are changed.
func changed[T any](l []T, places iter.Seq[int], change func(T) T) []T {
	l = slices.Clone(l)
	for k := range places {
		l[k] = change(l[k])
	}
	return l
}
