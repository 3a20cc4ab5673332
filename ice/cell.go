package ice

import (
	"iter"
	"sort"

	"besom/api"
	"besom/fixed"
)

// strips are the columns of ice, or its rows: where they begin, how wide each is, and how many there are.
type strips struct {
	start, side api.Fix
	count       int
}

// columns returns the columns of ice.
func columns(i api.Ice) strips {
	return strips{i.Corner.X, i.Side, i.W}
}

// rows returns the rows of ice.
func rows(i api.Ice) strips {
	return strips{i.Corner.Y, i.Side, i.H}
}

// border returns the coordinate at which the strip k begins, and the one before it ends.
func (s strips) border(k int) api.Fix {
	return s.start + api.Fix(k)*s.side
}

// of returns the strip in which a coordinate is, and whether there is one.
func (s strips) of(n api.Fix) (int, bool) {
	if n < s.start || n >= s.border(s.count) {
		return 0, false
	}
	return int((n - s.start) / s.side), true
}

// borders returns the first border that is not below low, and the first one above high.
func (s strips) borders(low, high api.Fix) (first, end int) {
	first = sort.Search(s.count+1, func(k int) bool { return s.border(k) >= low })
	end = sort.Search(s.count+1, func(k int) bool { return s.border(k) > high })
	return first, end
}

// within returns the strips that lie between low and high: from first to below end.
func (s strips) within(low, high api.Fix) (first, end int) {
	first, end = s.borders(low, high)
	return first, end - 1
}

// met returns the strips that have, with their borders, a coordinate from low to high: from first to below end.
func (s strips) met(low, high api.Fix) (first, end int) {
	first, end = s.borders(low, high)
	return max(first-1, 0), min(end, s.count)
}

// cellOf returns the cell in which a spot is, and whether there is one.
func cellOf(i api.Ice, s api.Spot) (int, bool) {
	x, isX := columns(i).of(s.X)
	y, isY := rows(i).of(s.Y)
	return y*i.W + x, isX && isY
}

// all yields all cells.
func all(i api.Ice) iter.Seq[int] {
	return func(yield func(int) bool) {
		for c := range i.W * i.H {
			if !yield(c) {
				return
			}
		}
	}
}

// boxed yields the cells that a box has, rising.
func boxed(i api.Ice, low, high api.Spot) iter.Seq[int] {
	left, right := columns(i).within(low.X, high.X)
	bottom, top := rows(i).within(low.Y, high.Y)
	return func(yield func(int) bool) {
		for y := bottom; y < top; y++ {
			for x := left; x < right; x++ {
				if !yield(y*i.W + x) {
					return
				}
			}
		}
	}
}

// touched yields the cells that a way touches, rising.
func touched(i api.Ice, from, to api.Spot) iter.Seq[int] {
	if from.Y > to.Y {
		from, to = to, from
	}
	left, right := columns(i).met(min(from.X, to.X), max(from.X, to.X))
	bottom, top := rows(i).met(from.Y, to.Y)
	return func(yield func(int) bool) {
		for y := bottom; y < top; y++ {
			// The way goes up: in a row the cells to its left come first, then those on its line, then those to its right.
			x := left + sort.Search(right-left, func(k int) bool { return side(corners(i, left+k, y), from, to) <= 0 })
			for ; x < right && side(corners(i, x, y), from, to) == 0; x++ {
				if !yield(y*i.W + x) {
					return
				}
			}
		}
	}
}

// corners returns the corners of the cell in a column and a row.
func corners(i api.Ice, x, y int) [4]api.Spot {
	left, right := columns(i).border(x), columns(i).border(x+1)
	low, high := rows(i).border(y), rows(i).border(y+1)
	return [4]api.Spot{{X: left, Y: low}, {X: right, Y: low}, {X: left, Y: high}, {X: right, Y: high}}
}

// side tells whether all corners are to the left of the line from a spot to another one (1), all to its right (-1), or neither (0).
func side(corners [4]api.Spot, from, to api.Spot) int {
	sum := 0
	for _, c := range corners {
		turn, _ := fixed.Turn(less(to, from), less(c, from))
		sum += turn
	}
	// Of four turns from -1 to 1 only equal ones that are not 0 sum up to 4 in size.
	return sum / len(corners)
}

// less returns a difference.
func less(a, b api.Spot) api.Spot {
	return api.Spot{X: a.X - b.X, Y: a.Y - b.Y}
}

// only yields those elements of which keep holds.
func only[T any](l iter.Seq[T], keep func(T) bool) iter.Seq[T] {
	return func(yield func(T) bool) {
		for t := range l {
			if keep(t) && !yield(t) {
				return
			}
		}
	}
}
