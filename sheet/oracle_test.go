package sheet_test

import (
	"math"
	"math/big"

	"besom/api"
)

// The tests hold the results against the words of the chapter, with integers of any size (package math/big).

// mm returns a place in millimetres.
func mm(x, y api.Fix) api.Spot { return api.Spot{X: x * api.MM, Y: y * api.MM} }

// wrongSpots are not valid.
var wrongSpots = []api.Spot{
	{X: api.MaxPlace + 1}, {X: -api.MaxPlace - 1}, {Y: api.MaxPlace + 1}, {Y: -api.MaxPlace - 1},
	{X: math.MinInt64}, {X: math.MaxInt64}, {Y: math.MinInt64}, {Y: math.MaxInt64}, {X: math.MinInt64, Y: math.MinInt64},
	{X: api.MaxPlace + 1, Y: -1}, {X: 1 << 62}, {X: 1 << 48}, {Y: -1 << 48},
}

// edges returns coordinates near those where something changes.
func edges() []api.Fix {
	var out []api.Fix
	for _, n := range []api.Fix{0, 145, 290, 1500, 1684, 1829, 1900, 1974, 2230, 2375, 2520, 6256, 6401, 6546, 28344} {
		for d := api.Fix(-1); d <= 1; d++ {
			out = append(out, n*api.MM+d, -n*api.MM-d)
		}
	}
	return append(out, 1<<31, -1<<31, 1<<32, -1<<32, api.MaxPlace, -api.MaxPlace)
}

// spots returns all pairs of edges.
func spots() []api.Spot {
	var out []api.Spot
	for _, x := range edges() {
		for _, y := range edges() {
			out = append(out, api.Spot{X: x, Y: y})
		}
	}
	return out
}

// sum returns a sum of any size.
func sum(l ...api.Fix) *big.Int {
	out := new(big.Int)
	for _, n := range l {
		out.Add(out, big.NewInt(int64(n)))
	}
	return out
}

// square returns the square of a distance.
func square(a, b api.Spot) *big.Int {
	x, y := sum(a.X, -b.X), sum(a.Y, -b.Y)
	return new(big.Int).Add(x.Mul(x, x), y.Mul(y, y))
}

// reach compares the distance of two places with a length.
func reach(a, b api.Spot, length int64) int {
	n := big.NewInt(length)
	return square(a, b).Cmp(n.Mul(n, n))
}

// plays reports whether a stone at a valid place is in play.
func plays(p api.Spot) bool {
	side := p.X > -2230*api.MM && p.X < 2230*api.MM
	return side && p.Y <= 1974*api.MM && p.Y > -6256*api.MM
}

// zone returns where a stone at a valid place is.
func zone(p api.Spot) int {
	if !plays(p) {
		return api.Away
	}
	if reach(p, api.Spot{}, 1974*api.MM) <= 0 {
		return api.House
	}
	if p.Y < -145*api.MM {
		return api.Guard
	}
	return api.Behind
}

// state makes numbers that look like chance, always the same ones.
type state uint64

// below returns a number from 0 to n - 1.
func (s *state) below(n int) int {
	*s = *s*6364136223846793005 + 1442695040888963407
	return int(uint64(*s)>>33) % n
}

// position returns a valid position of at most n stones, which lie on a grid, so that many have the same distance.
func (s *state) position(n int) []api.Stone {
	var out []api.Stone
	for range n {
		a := api.Stone{Team: s.below(2), N: s.below(8), At: mm(api.Fix(s.below(9)-4)*300, api.Fix(s.below(9)-4)*300)}
		if s.below(8) == 0 {
			a.At = mm(api.Fix(s.below(4000)-2000), api.Fix(s.below(8000)-6200))
		}
		if !clashes(out, a) && plays(a.At) {
			out = append(out, a)
		}
	}
	return out
}

// clashes reports whether a stone has the name of one of a position, or overlaps it.
func clashes(l []api.Stone, a api.Stone) bool {
	for _, b := range l {
		if a.Team == b.Team && a.N == b.N || reach(a.At, b.At, 290*api.MM) < 0 {
			return true
		}
	}
	return false
}

// counting returns whether a stone counts: it is in the house, and nearer than all of the other team there.
func counting(l []api.Stone, i int) bool {
	if zone(l[i].At) != api.House {
		return false
	}
	for _, b := range l {
		if b.Team != l[i].Team && zone(b.At) == api.House && square(b.At, api.Spot{}).Cmp(square(l[i].At, api.Spot{})) <= 0 {
			return false
		}
	}
	return true
}

// count returns which team counts, and how many points.
func count(l []api.Stone) (team, points int) {
	team = -1
	for i := range l {
		if counting(l, i) {
			team = l[i].Team
			points++
		}
	}
	return team, points
}

// full returns 16 stones in play that touch their neighbours.
func full() []api.Stone {
	var out []api.Stone
	for i := range 16 {
		out = append(out, api.Stone{Team: i % 2, N: i / 2, At: mm(api.Fix(i%4)*290, -api.Fix(i/4)*290)})
	}
	return out
}

// wrongPositions are not valid, each for one reason.
func wrongPositions() [][]api.Stone {
	out := [][]api.Stone{
		{{Team: 2}}, {{Team: -1}}, {{N: 8}}, {{N: -1}}, {{Team: math.MaxInt}}, {{N: math.MinInt}}, {{Team: 1 << 32}}, {{N: 1 << 32}},
		{{At: mm(2230, 0)}}, {{At: mm(-2230, 0)}}, {{At: mm(0, -6256)}}, {{At: api.Spot{Y: 1974*api.MM + 1}}},
		{{}, {At: mm(400, 0)}}, {{Team: 1, N: 7}, {At: mm(0, 400)}, {Team: 1, N: 7, At: mm(400, 0)}},
		{{}, {N: 1, At: mm(289, 0)}}, {{}, {Team: 1, At: api.Spot{X: 290*api.MM - 1}}}, {{}, {Team: 1}},
		append(full(), api.Stone{Team: 0, N: 0, At: mm(-400, 0)}),
		append(full(), api.Stone{Team: 2, N: 0, At: mm(-400, 0)}),
	}
	for _, p := range wrongSpots {
		out = append(out, []api.Stone{{}, {Team: 1, At: p}})
	}
	return out
}
