package sheet

import (
	"cmp"
	"slices"

	"besom/api"
)

// name tells the stones of a position apart.
type name struct{ team, n int }

// nameOf returns a stone's name.
func nameOf(s api.Stone) name {
	return name{s.Team, s.N}
}

// Check reports whether a position is valid.
func Check(l []api.Stone) bool {
	if len(l) > api.MaxStones {
		return false
	}
	seen := map[name]bool{}
	for _, s := range l {
		if !isNamed(s) || seen[nameOf(s)] || !isInPlay(s.At) {
			return false
		}
		seen[nameOf(s)] = true
	}
	i, _ := Overlap(l)
	return i < 0
}

// isNamed reports whether there is a stone with this team and number.
func isNamed(s api.Stone) bool {
	return (s.Team == 0 || s.Team == 1) && s.N >= 0 && s.N < 8
}

// Overlap returns the first stones that overlap.
func Overlap(l []api.Stone) (i, k int) {
	return firstPair(l, func(a, b api.Stone) bool {
		return CheckSpot(a.At) && CheckSpot(b.At) && contact(a.At, b.At) == overlapping
	})
}

// firstPair returns the first i, and for it the first k above i, whose elements hold together; -1, -1 if none do.
func firstPair[T any](l []T, hold func(a, b T) bool) (i, k int) {
	for i, a := range l {
		for k, b := range l[i+1:] {
			if hold(a, b) {
				return i, i + 1 + k
			}
		}
	}
	return -1, -1
}

// Nearest returns the stones in the house, the nearest first.
func Nearest(l []api.Stone) ([]int, api.Errno) {
	if !Check(l) {
		return nil, api.ErrArg
	}
	var order []int
	for i, s := range l {
		if isInHouse(s.At) {
			order = append(order, i)
		}
	}
	slices.SortStableFunc(order, func(i, k int) int {
		return cmp.Compare(square(l[i].At), square(l[k].At))
	})
	return order, api.OK
}

// Count returns which team counts, and how many points.
func Count(l []api.Stone) (team, points int, e api.Errno) {
	order, e := Nearest(l)
	if e != api.OK {
		return 0, 0, e
	}
	if len(order) == 0 {
		return -1, 0, api.OK
	}
	team = l[order[0]].Team
	points = slices.IndexFunc(order, func(i int) bool { return l[i].Team != team })
	if points < 0 {
		return team, len(order), api.OK
	}
	// Stones that are just as far as the other team's nearest one do not count.
	limit := square(l[order[points]].At)
	for points > 0 && square(l[order[points-1]].At) == limit {
		points--
	}
	if points == 0 {
		team = -1
	}
	return team, points, api.OK
}

// Mirror returns a position with left and right exchanged.
func Mirror(l []api.Stone) ([]api.Stone, api.Errno) {
	if !Check(l) {
		return nil, api.ErrArg
	}
	m := slices.Clone(l)
	for i := range m {
		m[i].At.X = -m[i].At.X
	}
	return m, api.OK
}

// Find returns the index of a stone.
func Find(l []api.Stone, team, n int) (int, api.Errno) {
	i := slices.IndexFunc(l, func(s api.Stone) bool { return nameOf(s) == name{team, n} })
	if i < 0 {
		return 0, api.ErrNone
	}
	return i, api.OK
}
