package ice_test

import (
	"math/big"
	"slices"
	"testing"

	"besom/api"
	"besom/ice"
)

// P3.7: places of a way that are in a cell are in one that is touched, whichever way round it is walked.
func TestLawOfWays(t *testing.T) {
	s := state(36)
	for range 3000 {
		i := s.ice()
		from, step := s.spot(i), api.Spot{X: api.Fix(s.from(-9, 9)), Y: api.Fix(s.from(-9, 9))}
		at := func(k api.Fix) api.Spot { return api.Spot{X: from.X + k*step.X, Y: from.Y + k*step.Y} }
		n := api.Fix(s.below(20))
		there, e := ice.Touched(i, from, at(n))
		back, f := ice.Touched(i, at(n), from)
		if e != f || !slices.Equal(there, back) || !slices.IsSorted(there) {
			t.Errorf("from %v to %v: %v, back: %v", from, at(n), there, back)
		}
		for k := range n + 1 {
			if c, f := ice.At(i, at(k)); e == api.OK && f == api.OK && !slices.Contains(there, c) {
				t.Errorf("from %v to %v: %v, without the cell %d", from, at(n), there, c)
			}
		}
	}
}

// bounded reports whether each number of a list differs from the one before by 0, or, in the cells, by a number of the same sign that is not greater.
func bounded(before, after []int, cells []int, by int) bool {
	for c := range before {
		change := after[c] - before[c]
		if by < 0 {
			change = -change
		}
		if change < 0 || change > max(by, -by) || change != 0 && !slices.Contains(cells, c) {
			return false
		}
	}
	return true
}

// P3.7: only the cells that are named change, and by no more than is named.
func TestLawOfChanges(t *testing.T) {
	s := state(37)
	for range 2000 {
		i, g := s.ice(), s.grain()
		from, to, n := s.spot(i), s.spot(i), s.from(0, 1000)
		low, high := s.box(i)
		way, _ := ice.Touched(i, from, to)
		everywhere := make([]int, i.W*i.H)
		for c := range everywhere {
			everywhere[c] = c
		}
		worn, _ := ice.Pass(i, g, from, to)
		swept, _ := ice.Sweep(i, from, to, n)
		faded, _ := ice.Fade(i, n)
		scraped, _ := ice.Scrape(i, low, high, n)
		sprayed, _ := ice.Spray(i, low, high, n, s.below(2))
		for k, c := range []struct {
			after          api.Ice
			cells          []int
			pebble, polish int
		}{
			{after: worn, cells: way, pebble: -g.Wear},
			{after: swept, cells: way, polish: n},
			{after: faded, cells: everywhere, polish: -n},
			{after: scraped, cells: inBox(i, low, high), pebble: -1000, polish: -1000},
			{after: sprayed, cells: inBox(i, low, high), pebble: n},
		} {
			if !bounded(i.Pebble, c.after.Pebble, c.cells, c.pebble) || !bounded(i.Polish, c.after.Polish, c.cells, c.polish) {
				t.Errorf("the change %d makes %v of %v", k, c.after, i)
			}
		}
	}
}

// P3.7: more pebble and more polish never brake more; more polish never bends more.
func TestLawOfBrakes(t *testing.T) {
	s := state(38)
	for range 400 {
		g := s.grain()
		n := s.from(0, 1000)
		slow, last, bent := api.Fix(1<<40), api.Fix(1<<40), api.Fix(1<<40)
		for k := 0; k <= 1000; k += 1 + s.below(60) {
			a, e := ice.Slow(even(api.Spot{}, 5, 1, 1, k, n), g, api.Spot{})
			b, f := ice.Slow(even(api.Spot{}, 5, 1, 1, n, k), g, api.Spot{})
			c, h := ice.Bend(even(api.Spot{}, 5, 1, 1, n, k), g, api.Spot{})
			if a > slow || b > last || c > bent || a < 0 || b < 0 || c < 0 || e != api.OK || f != api.OK || h != api.OK {
				t.Errorf("with %v, %d: %d behind %d, %d behind %d, %d behind %d", g, k, a, slow, b, last, c, bent)
			}
			slow, last, bent = a, b, c
		}
	}
}

// P3.7: scraping twice is scraping once.
func TestLawOfScraping(t *testing.T) {
	s := state(39)
	for range 1000 {
		i := s.ice()
		low, high := s.box(i)
		n := s.from(0, 1000)
		once, _ := ice.Scrape(i, low, high, n)
		twice, e := ice.Scrape(once, low, high, n)
		holdIce(t, twice, e, once, "Scrape", i, low, high, n)
	}
}

// P3.7: a longer way needs no less weight.
func TestLawOfLongerWays(t *testing.T) {
	s := state(40)
	for range 1000 {
		i, g := s.ice(), s.grain()
		from := s.spot(i)
		last := api.Fix(0)
		for to := from.Y + 1; to <= api.MaxPlace && to < from.Y+100; to += api.Fix(1 + s.below(9)) {
			n, e := ice.Weight(i, g, from, to)
			if n < last || e != api.OK {
				t.Errorf("in %v, %v, from %v to %d: %d behind %d, error %d", i, g, from, to, n, last, e)
			}
			last = n
		}
	}
}

// P3.7: on ice that is the same everywhere the square of the weight is twice the brake times the way; the root, and each of up to 8 pieces, are rounded up.
func TestLawOfWeights(t *testing.T) {
	s := state(41)
	for range 2000 {
		side := api.Fix(s.from(1, api.MaxPlace/8))
		i := even(api.Spot{X: -side, Y: -3 * side}, side, 2, 6, s.from(0, 1000), s.from(0, 1000))
		g := s.grain()
		from := api.Spot{X: -api.Fix(s.from(1, int(side))), Y: api.Fix(s.from(int(-3*side), int(3*side)-1))}
		to := from.Y + api.Fix(s.from(1, int(3*side-from.Y)))
		n, e := ice.Weight(i, g, from, to)
		b, f := ice.Slow(i, g, from)
		twice := product(2, int(b), int(to-from.Y))
		most := new(big.Int).Add(twice, product(2, 65536, 8))
		if e != api.OK || f != api.OK || product(int(n), int(n)).Cmp(twice) < 0 || n > 0 && product(int(n)-1, int(n)-1).Cmp(most) >= 0 {
			t.Errorf("in %v, from %v to %d: the brake %d, the weight %d", i, from, to, b, n)
		}
	}
}
