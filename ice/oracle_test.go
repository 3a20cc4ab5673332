package ice_test

import (
	"math"
	"math/big"
	"slices"
	"testing"

	"besom/api"
)

// The tests hold the results against the words of the chapter, with numbers of any size (package math/big).

// wrongNumbers are far from all that is valid.
var wrongNumbers = []int{math.MinInt, math.MinInt + 1, -1 << 32, 1 << 32, math.MaxInt}

// wrongSpots are not valid.
var wrongSpots = []api.Spot{
	{X: api.MaxPlace + 1}, {X: -api.MaxPlace - 1}, {Y: api.MaxPlace + 1}, {Y: -api.MaxPlace - 1},
	{X: math.MinInt64}, {X: math.MaxInt64}, {Y: math.MinInt64}, {Y: math.MaxInt64}, {X: 1 << 62, Y: -1 << 62},
}

// pond returns the ice and the grain of the chapter's examples.
func pond() (api.Ice, api.Grain) {
	i := api.Ice{Side: 10, W: 2, H: 3, Pebble: []int{100, 200, 300, 400, 500, 600}, Polish: []int{0, 0, 0, 0, 0, 500}}
	return i, api.Grain{Flat: 1000, Keen: 500, Swept: 200, Bend: 100, Wear: 150}
}

// even returns ice that is the same everywhere.
func even(corner api.Spot, side api.Fix, w, h, pebble, polish int) api.Ice {
	return api.Ice{Corner: corner, Side: side, W: w, H: h, Pebble: slices.Repeat([]int{pebble}, w*h), Polish: slices.Repeat([]int{polish}, w*h)}
}

// clone returns ice in memory of its own.
func clone(i api.Ice) api.Ice {
	i.Pebble, i.Polish = slices.Clone(i.Pebble), slices.Clone(i.Polish)
	return i
}

// same reports whether ice is equal.
func same(a, b api.Ice) bool {
	frame := a.Corner == b.Corner && a.Side == b.Side && a.W == b.W && a.H == b.H
	return frame && slices.Equal(a.Pebble, b.Pebble) && slices.Equal(a.Polish, b.Polish)
}

// state makes numbers that look like chance, always the same ones.
type state uint64

// below returns a number from 0 to n - 1.
func (s *state) below(n int) int {
	*s = *s*6364136223846793005 + 1442695040888963407
	return int(uint64(*s)>>31) % n
}

// from returns a number from least to most.
func (s *state) from(least, most int) int { return least + s.below(most-least+1) }

// ice returns ice of a few cells, which are small, or as great as they may be.
func (s *state) ice() api.Ice {
	i := api.Ice{Side: api.Fix(s.from(1, 12)), W: s.from(1, 6), H: s.from(1, 6)}
	i.Corner = api.Spot{X: api.Fix(s.from(-40, 10)), Y: api.Fix(s.from(-40, 10))}
	if s.below(4) == 0 {
		i.Side = api.Fix(s.from(1, api.MaxPlace))
		i.Corner = s.spot(i)
	}
	for range i.W * i.H {
		i.Pebble = append(i.Pebble, s.from(0, 1000))
		i.Polish = append(i.Polish, s.from(0, 1000))
	}
	return i
}

// grain returns a grain.
func (s *state) grain() api.Grain {
	flat := s.from(1, api.MaxSlow)
	return api.Grain{Flat: api.Fix(flat), Keen: api.Fix(s.from(1, flat)), Swept: s.from(0, 1000), Bend: s.from(0, 1000), Wear: s.from(0, 1000)}
}

// spot returns a valid spot on ice or near it, often at a border.
func (s *state) spot(i api.Ice) api.Spot {
	return api.Spot{X: s.near(i.Corner.X, i.Side, i.W), Y: s.near(i.Corner.Y, i.Side, i.H)}
}

// near returns a valid coordinate.
func (s *state) near(start, side api.Fix, cells int) api.Fix {
	n := start + side*api.Fix(s.from(-1, cells+1))
	switch s.below(3) {
	case 0:
		n += api.Fix(s.from(-1, 1))
	case 1:
		n += api.Fix(s.below(int(side)))
	}
	return max(-api.MaxPlace, min(n, api.MaxPlace))
}

// box returns two spots of which the first one is not above the second one.
func (s *state) box(i api.Ice) (low, high api.Spot) {
	a, b := s.spot(i), s.spot(i)
	return api.Spot{X: min(a.X, b.X), Y: min(a.Y, b.Y)}, api.Spot{X: max(a.X, b.X), Y: max(a.Y, b.Y)}
}

// square returns the least and the greatest coordinates of a cell.
func square(i api.Ice, c int) (low, high api.Spot) {
	low = api.Spot{X: i.Corner.X + api.Fix(c%i.W)*i.Side, Y: i.Corner.Y + api.Fix(c/i.W)*i.Side}
	return low, api.Spot{X: low.X + i.Side, Y: low.Y + i.Side}
}

// cell returns the cell in which a spot is, or -1.
func cell(i api.Ice, s api.Spot) int {
	for c := range i.W * i.H {
		low, high := square(i, c)
		if low.X <= s.X && s.X < high.X && low.Y <= s.Y && s.Y < high.Y {
			return c
		}
	}
	return -1
}

// inBox returns the cells of a box.
func inBox(i api.Ice, low, high api.Spot) []int {
	var out []int
	for c := range i.W * i.H {
		if a, b := square(i, c); a.X >= low.X && a.Y >= low.Y && b.X <= high.X && b.Y <= high.Y {
			out = append(out, c)
		}
	}
	return out
}

// onWay returns the cells that a way touches: those for which a part of the way, from 0 to 1, is in the closed square.
func onWay(i api.Ice, from, to api.Spot) []int {
	var out []int
	for c := range i.W * i.H {
		low, high := square(i, c)
		first, last := big.NewRat(0, 1), big.NewRat(1, 1)
		if cut(first, last, from.X, to.X, low.X, high.X) && cut(first, last, from.Y, to.Y, low.Y, high.Y) {
			out = append(out, c)
		}
	}
	return out
}

// cut keeps of a part of a way that of which the coordinate is from low to high, and reports whether there is any.
func cut(first, last *big.Rat, from, to, low, high api.Fix) bool {
	if from == to {
		return low <= from && from <= high
	}
	a, b := big.NewRat(int64(low-from), int64(to-from)), big.NewRat(int64(high-from), int64(to-from))
	if from > to {
		a, b = b, a
	}
	if a.Cmp(first) > 0 {
		first.Set(a)
	}
	if b.Cmp(last) < 0 {
		last.Set(b)
	}
	return first.Cmp(last) <= 0
}

// product returns a product of any size.
func product(l ...int) *big.Int {
	out := big.NewInt(1)
	for _, n := range l {
		out.Mul(out, big.NewInt(int64(n)))
	}
	return out
}

// nearest returns num / den, which are not below 0, rounded to the nearest integer, halves up.
func nearest(num *big.Int, den int) int {
	twice := new(big.Int).Add(new(big.Int).Lsh(num, 1), product(den))
	return int(twice.Quo(twice, product(2, den)).Int64())
}

// brake returns how ice brakes at a spot.
func brake(i api.Ice, g api.Grain, s api.Spot) api.Fix {
	p, q := 0, 0
	if c := cell(i, s); c >= 0 {
		p, q = i.Pebble[c], i.Polish[c]
	}
	r := nearest(product(int(g.Flat-g.Keen), p), 1000)
	return api.Fix(nearest(product(int(g.Flat)-r, 1000000-g.Swept*q), 1000000))
}

// bend returns how ice bends at a spot.
func bend(i api.Ice, g api.Grain, s api.Spot) api.Fix {
	q := 0
	if c := cell(i, s); c >= 0 {
		q = i.Polish[c]
	}
	return api.Fix(nearest(product(65536, g.Bend, 2000-q), 2000000))
}

// weight returns the speed for a way along the sheet.
func weight(i api.Ice, g api.Grain, from api.Spot, to api.Fix) api.Fix {
	cuts := []api.Fix{from.Y}
	for y := range i.H + 1 {
		if n := i.Corner.Y + api.Fix(y)*i.Side; from.Y < n && n < to {
			cuts = append(cuts, n)
		}
	}
	cuts = append(cuts, to)
	sum := new(big.Int)
	for k, n := range cuts[1:] {
		piece := product(int(brake(i, g, api.Spot{X: from.X, Y: cuts[k]})), int(n-cuts[k]))
		sum.Add(sum, piece.Add(piece, product(65535)).Rsh(piece, 16))
	}
	sum.Lsh(sum, 17)
	root := new(big.Int).Sqrt(sum)
	if new(big.Int).Mul(root, root).Cmp(sum) < 0 {
		root.Add(root, product(1))
	}
	return api.Fix(root.Int64())
}

// wrongIces are not valid, each for one reason.
func wrongIces() []api.Ice {
	var out []api.Ice
	add := func(change func(i *api.Ice)) {
		i, _ := pond()
		change(&i)
		out = append(out, i)
	}
	for _, s := range wrongSpots {
		add(func(i *api.Ice) { i.Corner = s })
	}
	for _, n := range []api.Fix{0, -1, api.MaxPlace + 1, math.MinInt64, math.MaxInt64} {
		add(func(i *api.Ice) { i.Side = n })
	}
	for _, size := range [][2]int{{0, 0}, {0, 6}, {6, 0}, {-2, -3}, {-1, -6}, {2, 2}, {3, 3}, {1, 7}, {1 << 32, 1 << 32}, {math.MinInt, math.MinInt}, {math.MaxInt, 2}} {
		add(func(i *api.Ice) { i.W, i.H = size[0], size[1] })
	}
	add(func(i *api.Ice) { *i = api.Ice{} })
	add(func(i *api.Ice) { *i = even(api.Spot{}, 10, 0, 0, 0, 0) })
	add(func(i *api.Ice) { *i = even(api.Spot{}, 10, 0, 3, 0, 0) })
	add(func(i *api.Ice) { *i = even(api.Spot{}, 10, 3, 0, 0, 0) })
	add(func(i *api.Ice) { *i = even(api.Spot{}, 10, 257, 1, 0, 0) })
	add(func(i *api.Ice) { *i = even(api.Spot{}, 10, 1, 257, 0, 0) })
	add(func(i *api.Ice) { i.Pebble = nil })
	add(func(i *api.Ice) { i.Polish = nil })
	add(func(i *api.Ice) { i.Pebble = i.Pebble[:5] })
	add(func(i *api.Ice) { i.Polish = i.Polish[:5] })
	add(func(i *api.Ice) { i.Pebble = append(i.Pebble, 0) })
	add(func(i *api.Ice) { i.Polish = append(i.Polish, 0) })
	for _, n := range append(wrongNumbers, -1, 1001) {
		for _, c := range []int{0, 2, 5} {
			add(func(i *api.Ice) { i.Pebble[c] = n })
			add(func(i *api.Ice) { i.Polish[c] = n })
		}
	}
	return out
}

// wrongGrains are not valid, each for one reason.
func wrongGrains() []api.Grain {
	var out []api.Grain
	add := func(change func(g *api.Grain)) {
		_, g := pond()
		change(&g)
		out = append(out, g)
	}
	add(func(g *api.Grain) { *g = api.Grain{} })
	add(func(g *api.Grain) { *g = api.Grain{Flat: 1} })
	add(func(g *api.Grain) { g.Flat, g.Keen = 65537, 65536 })
	add(func(g *api.Grain) { g.Flat, g.Keen = 65537, 65537 })
	add(func(g *api.Grain) { g.Flat, g.Keen = -1, -1 })
	add(func(g *api.Grain) { g.Flat, g.Keen = 0, 0 })
	add(func(g *api.Grain) { g.Flat, g.Keen = 499, 500 })
	add(func(g *api.Grain) { g.Keen = 0 })
	add(func(g *api.Grain) { g.Keen = -1 })
	add(func(g *api.Grain) { g.Keen = math.MinInt64 })
	add(func(g *api.Grain) { g.Flat = math.MaxInt64 })
	for _, n := range append(wrongNumbers, -1, 1001) {
		add(func(g *api.Grain) { g.Swept = n })
		add(func(g *api.Grain) { g.Bend = n })
		add(func(g *api.Grain) { g.Wear = n })
	}
	return out
}

// hold tests that a number is as it must be.
func hold[N comparable](t *testing.T, got N, e api.Errno, want N, what string, args ...any) {
	t.Helper()
	if got != want || e != api.OK {
		t.Errorf("%s of %v is %v, error %d; want %v", what, args, got, e, want)
	}
}

// holdIce tests that ice is as it must be.
func holdIce(t *testing.T, got api.Ice, e api.Errno, want api.Ice, what string, args ...any) {
	t.Helper()
	if !same(got, want) || e != api.OK {
		t.Errorf("%s of %v is %v, error %d; want %v", what, args, got, e, want)
	}
}

// refuseIce tests that a call has the error ErrArg, and no ice beside it.
func refuseIce(t *testing.T, got api.Ice, e api.Errno, what string, args ...any) {
	t.Helper()
	if !same(got, api.Ice{}) || e != api.ErrArg {
		t.Errorf("%s of %v is %v, error %d; want the error %d", what, args, got, e, api.ErrArg)
	}
}
