package sheet_test

import (
	"slices"
	"testing"

	"besom/api"
	"besom/sheet"
)

// P2.7
func TestLawOfZones(t *testing.T) {
	for _, p := range spots() {
		n, e := sheet.Zone(p)
		m, f := sheet.Zone(api.Spot{X: -p.X, Y: p.Y})
		if n < 0 || n > 3 || n != m || e != api.OK || f != api.OK {
			t.Errorf("Zone of %v is %d, and mirrored %d", p, n, m)
		}
	}
}

// P2.7
func TestLawOfContacts(t *testing.T) {
	l := spots()
	for i, a := range l {
		for k := i % 101; k < len(l); k += 101 {
			n, _ := sheet.Contact(a, l[k])
			if m, _ := sheet.Contact(l[k], a); n != m {
				t.Errorf("Contact of %v and %v is %d, turned %d", a, l[k], n, m)
			}
		}
	}
}

// points returns what a position counts.
func points(t *testing.T, l []api.Stone) api.Score {
	team, n, e := sheet.Count(l)
	if e != api.OK {
		t.Errorf("Count(%v): error %d", l, e)
	}
	return api.Score{Team: team, Points: n}
}

// inHouse returns how many stones of a team are in the house.
func inHouse(l []api.Stone, team int) int {
	n := 0
	for _, s := range l {
		if z, _ := sheet.Zone(s.At); z == api.House && s.Team == team {
			n++
		}
	}
	return n
}

// P2.8
func TestLawsOfCounts(t *testing.T) {
	s := state(5)
	for n := range 1500 {
		l := s.position(n % 40)
		score := points(t, l)
		if score.Points > 8 || score.Points > inHouse(l, score.Team) {
			t.Errorf("%v counts %v", l, score)
		}
		m, _ := sheet.Mirror(l)
		if points(t, m) != score {
			t.Errorf("%v counts %v, but not if mirrored", l, score)
		}
		for team := range 2 {
			alone := slices.DeleteFunc(slices.Clone(l), func(s api.Stone) bool { return s.Team != team })
			if got := points(t, alone); got.Points != inHouse(l, team) {
				t.Errorf("%v counts %v", alone, got)
			}
		}
		for i := range l {
			takeAway(t, l, i, score)
		}
	}
}

// takeAway tests what a position counts without one of its stones.
func takeAway(t *testing.T, l []api.Stone, i int, score api.Score) {
	left := slices.Delete(slices.Clone(l), i, i+1)
	got := points(t, left)
	if l[i].Team != score.Team && got.Team == l[i].Team {
		t.Errorf("%v without the stone %d counts %v", l, i, got)
	}
	if l[i].Team == score.Team && !counting(l, i) && got != score {
		t.Errorf("%v without the stone %d counts %v; want %v", l, i, got, score)
	}
}

// R3, R4: nil and empty lists are the same, and what a call returned is not changed by another one.
func TestMemory(t *testing.T) {
	for _, l := range [][]api.Stone{nil, {}} {
		order, e := sheet.Nearest(l)
		m, f := sheet.Mirror(l)
		if len(order) != 0 || len(m) != 0 || e != api.OK || f != api.OK {
			t.Error(order, m, e, f)
		}
	}
	l := full()
	before := slices.Clone(l)
	first, _ := sheet.Nearest(l)
	second, _ := sheet.Nearest(l)
	first[0] = 99
	if again, _ := sheet.Nearest(l); !slices.Equal(again, second) || !slices.Equal(l, before) {
		t.Error("Nearest kept memory")
	}
}
