package sheet_test

import (
	"math"
	"slices"
	"testing"

	"besom/api"
	"besom/sheet"
)

// P2.3
func TestCheck(t *testing.T) {
	right := [][]api.Stone{nil, {}, full(), {{}}, {{Team: 1, N: 7}}, {{}, {N: 1, At: mm(290, 0)}}, {{At: mm(1500, 1900)}}, {{At: mm(-2229, -6255)}}, {{}, {Team: 1, At: mm(400, 0)}}}
	for _, l := range right {
		if !sheet.Check(l) {
			t.Errorf("Check(%v) is false", l)
		}
	}
	for _, l := range wrongPositions() {
		if sheet.Check(l) {
			t.Errorf("Check(%v) is true", l)
		}
	}
}

// P2.3: all stones of both teams, and no others.
func TestCheckNames(t *testing.T) {
	for team := -3; team <= 3; team++ {
		for n := -3; n <= 11; n++ {
			want := (team == 0 || team == 1) && n >= 0 && n <= 7
			if sheet.Check([]api.Stone{{Team: team, N: n}}) != want {
				t.Errorf("Check of the stone %d of team %d is not %v", n, team, want)
			}
		}
	}
}

// P2.3
func TestOverlap(t *testing.T) {
	far := api.Stone{Team: -5, N: 99, At: mm(0, -28344)}
	for _, c := range []struct {
		l    []api.Stone
		i, k int
	}{
		{nil, -1, -1},
		{[]api.Stone{{}}, -1, -1},
		{full(), -1, -1},
		{[]api.Stone{{}, {}}, 0, 1},
		{[]api.Stone{{At: mm(1000, 0)}, {}, {At: mm(1289, 0)}, {At: mm(100, 0)}, {At: mm(0, 100)}}, 0, 2},
		{[]api.Stone{{At: mm(1000, 0)}, {}, {At: mm(1290, 0)}, {At: mm(0, 290)}, {At: mm(0, 100)}, {At: mm(0, -100)}}, 1, 4},
		{[]api.Stone{far, {At: mm(1, 1)}, far}, 0, 2}, // whatever else is not valid
		{[]api.Stone{{At: api.Spot{X: api.MaxPlace + 1}}, {At: api.Spot{X: api.MaxPlace}}, {At: api.Spot{X: api.MaxPlace - 1}}}, 1, 2},
		{[]api.Stone{{At: api.Spot{X: math.MinInt64}}, {At: api.Spot{X: math.MinInt64}}, {At: api.Spot{X: math.MaxInt64}}}, -1, -1},
		{[]api.Stone{{At: api.Spot{Y: math.MaxInt64}}, {At: api.Spot{Y: math.MinInt64}}}, -1, -1},
		{append(full(), full()...), 0, 16},
	} {
		if i, k := sheet.Overlap(c.l); i != c.i || k != c.k {
			t.Errorf("Overlap(%v) is %d, %d; want %d, %d", c.l, i, k, c.i, c.k)
		}
	}
}

// P2.4
func TestNearest(t *testing.T) {
	s := state(1)
	for n := range 2000 {
		l := s.position(n % 33)
		got, e := sheet.Nearest(l)
		if want := nearest(l); !slices.Equal(got, want) || e != api.OK {
			t.Errorf("Nearest(%v) is %v, error %d; want %v", l, got, e, want)
		}
	}
	for _, l := range wrongPositions() {
		if order, e := sheet.Nearest(l); len(order) != 0 || e != api.ErrArg {
			t.Errorf("Nearest(%v) is %v, error %d", l, order, e)
		}
	}
}

// nearest returns the stones in the house: again and again the first one of the nearest ones that are left.
func nearest(l []api.Stone) []int {
	var out []int
	for range l {
		best := -1
		for i, s := range l {
			if zone(s.At) == api.House && !slices.Contains(out, i) && (best < 0 || square(s.At, api.Spot{}).Cmp(square(l[best].At, api.Spot{})) < 0) {
				best = i
			}
		}
		if best >= 0 {
			out = append(out, best)
		}
	}
	return out
}

// P2.4
func TestCount(t *testing.T) {
	for _, c := range []struct {
		l            []api.Stone
		team, points int
	}{
		{nil, -1, 0},
		{[]api.Stone{{At: mm(1500, 1900)}, {Team: 1, At: mm(0, -2000)}}, -1, 0},
		{[]api.Stone{{At: mm(0, 0)}, {N: 1, At: mm(0, 400)}, {Team: 1, At: mm(0, 1000)}, {Team: 1, N: 1, At: mm(300, 0)}}, 0, 1},
		{[]api.Stone{{At: mm(600, 0)}, {Team: 1, At: mm(-600, 0)}}, -1, 0},
		{[]api.Stone{{At: mm(600, 0)}, {N: 1, At: mm(0, 600)}, {Team: 1, At: mm(-600, 0)}, {Team: 1, N: 1, At: mm(0, 1000)}}, -1, 0},
		{[]api.Stone{{Team: 1, At: mm(0, 0)}, {Team: 1, N: 1, At: mm(0, 600)}, {At: mm(600, 0)}}, 1, 1},
		{[]api.Stone{{At: mm(600, 0)}, {Team: 1, At: mm(0, 0)}, {Team: 1, N: 1, At: mm(0, 600)}}, 1, 1},
		{[]api.Stone{{At: api.Spot{X: 600*api.MM + 1}}, {Team: 1, At: mm(0, 600)}}, 1, 1},
		{[]api.Stone{{At: mm(1900, 0)}, {Team: 1, At: mm(1900, 700)}}, 0, 1},
		{[]api.Stone{{At: mm(0, 1974)}, {N: 1, At: mm(0, -1974)}, {N: 2, At: mm(-1974, 0)}, {N: 3, At: api.Spot{X: 1974*api.MM + 1}}}, 0, 3},
	} {
		if team, points, e := sheet.Count(c.l); team != c.team || points != c.points || e != api.OK {
			t.Errorf("Count(%v) is %d, %d, error %d; want %d, %d", c.l, team, points, e, c.team, c.points)
		}
	}
	for _, l := range wrongPositions() {
		if team, points, e := sheet.Count(l); team != 0 || points != 0 || e != api.ErrArg {
			t.Errorf("Count(%v) is %d, %d, error %d", l, team, points, e)
		}
	}
}

// P2.4: by the words of the chapter.
func TestCountOfMany(t *testing.T) {
	s := state(2)
	seen := map[int]int{}
	for n := range 4000 {
		l := s.position(n % 33)
		wantTeam, wantPoints := count(l)
		team, points, e := sheet.Count(l)
		if team != wantTeam || points != wantPoints || e != api.OK {
			t.Errorf("Count(%v) is %d, %d, error %d; want %d, %d", l, team, points, e, wantTeam, wantPoints)
		}
		seen[team]++
	}
	if seen[-1] < 100 || seen[0] < 100 || seen[1] < 100 {
		t.Error("too few positions of a kind:", seen)
	}
}

// P2.5
func TestMirror(t *testing.T) {
	s := state(3)
	for n := range 200 {
		l := s.position(n % 33)
		before := slices.Clone(l)
		m, e := sheet.Mirror(l)
		if len(m) != len(l) || e != api.OK {
			t.Fatalf("Mirror(%v) is %v, error %d", l, m, e)
		}
		for i := range m {
			want := l[i]
			want.At.X *= -1
			if m[i] != want {
				t.Errorf("Mirror(%v) is %v", l, m)
			}
			m[i] = api.Stone{} // R4: no memory is shared
		}
		if !slices.Equal(l, before) {
			t.Errorf("Mirror changed %v to %v", before, l)
		}
	}
	for _, l := range wrongPositions() {
		if m, e := sheet.Mirror(l); len(m) != 0 || e != api.ErrArg {
			t.Errorf("Mirror(%v) is %v, error %d", l, m, e)
		}
	}
}

// P2.5: the list need not be a position.
func TestFind(t *testing.T) {
	l := []api.Stone{{Team: 1, N: 3}, {N: 3}, {Team: 1, N: 3, At: mm(9, 9)}, {Team: -7, N: 99}, {N: 3}}
	for _, c := range []struct {
		l       []api.Stone
		team, n int
		want    int
		e       api.Errno
	}{
		{l, 1, 3, 0, api.OK}, {l, 0, 3, 1, api.OK}, {l, -7, 99, 3, api.OK},
		{l, 3, 1, 0, api.ErrNone}, {l, 0, 99, 0, api.ErrNone}, {l, 1, 4, 0, api.ErrNone}, {l, 2, 3, 0, api.ErrNone},
		{nil, 0, 0, 0, api.ErrNone}, {full(), 1, 7, 15, api.OK}, {full(), 0, 7, 14, api.OK},
	} {
		if i, e := sheet.Find(c.l, c.team, c.n); i != c.want || e != c.e {
			t.Errorf("Find(%v, %d, %d) is %d, error %d; want %d, error %d", c.l, c.team, c.n, i, e, c.want, c.e)
		}
	}
}
