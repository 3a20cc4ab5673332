package contact_test

import (
	"slices"
	"testing"

	"besom/api"
	"besom/contact"
)

const (
	far  = api.MaxPlace
	fast = api.MaxSpeed
)

// P5.1
func TestCheck(t *testing.T) {
	all := full()
	for k := range all {
		all[k] = lost(all[k])
	}
	for _, l := range [][]api.Body{
		nil, {}, full(), all,
		{body(0, 0, far, -far, fast, -fast), body(1, 0, -far, far, -fast, fast)},
		{spun(body(1, 7, 0, 0, 1, 0), 1000), spun(on(7, 0, 0), -1000), spun(on(6, 0, 0), 7)}, // one place, and spins at rest
		{lost(on(0, far, 0)), on(1, far, 0)},
	} {
		if e := contact.Check(l); e != api.OK {
			t.Errorf("Check of %v is %d", l, e)
		}
	}
	for _, l := range wrongScenes() {
		if e := contact.Check(l); e != api.ErrArg {
			t.Errorf("Check of %v is %d", l, e)
		}
	}
}

// P5.1
func TestTouchExamples(t *testing.T) {
	const two = 290 * api.MM
	a := on(0, 0, 20000)
	for _, c := range []struct {
		b    api.Body
		want bool
	}{
		{on(1, 19000000, 0), true}, {on(1, two, 0), true}, {on(1, two+1, 0), false}, {on(1, -two, 7), true}, {on(1, -two-1, 7), false},
		{body(1, 0, two, 0, 0, 0), true}, {body(1, 0, two+1, 0, 0, 0), false}, {body(1, 0, -two, 0, 0, 0), true}, {body(1, 0, -two-1, 0, 0, 0), false},
		{body(1, 0, 174*api.MM, 232*api.MM, 0, 0), true}, {body(1, 0, 174*api.MM, 232*api.MM+1, 0, 0), false}, {body(1, 0, -174*api.MM-1, 232*api.MM, 0, 0), false},
		{body(1, 0, two, 1, 0, 0), false}, {body(1, 0, two, two, 0, 0), false}, {body(1, 0, far, far, 0, 0), false}, {body(1, 0, -far, -far, 0, 0), false},
		{on(1, 0, 0), false}, {on(0, 1, 0), true}, {body(1, 7, -1, 0, 0, 0), true}, {a, false}, {on(0, 100, 20000), true},
		{lost(on(1, 100, 0)), false}, {api.Body{Out: true, Moving: on(0, 100, 5).Moving}, false},
	} {
		is, e := contact.Touch(a, c.b)
		hold(t, is, e, c.want, "Touch", a, c.b)
		is, e = contact.Touch(c.b, a)
		hold(t, is, e, c.want, "Touch", c.b, a)
		is, e = contact.Touch(lost(a), c.b)
		hold(t, is, e, false, "Touch", lost(a), c.b)
	}
	is, e := contact.Touch(on(0, far, 0), on(1, -far, 0))
	hold(t, is, e, false, "Touch from end to end")
}

// P5.1
func TestTouch(t *testing.T) {
	s := state(51)
	for range 20000 {
		a, b := on(0, 0, 0), on(1, 0, 0)
		a.At = s.around(300 * api.MM)
		b.At = s.around(300 * api.MM)
		if s.below(2) == 0 { // nearly as far as may be
			n := s.below(291)
			rest := api.Fix(isqrt(290*290*api.MM*api.MM - n*n*api.MM*api.MM))
			b.At = api.Spot{X: a.At.X + api.Fix(n*api.MM), Y: a.At.Y - rest + api.Fix(s.from(-1, 1))}
		}
		is, e := contact.Touch(a, b)
		hold(t, is, e, touch(a, b), "Touch", a, b)
	}
}

// isqrt returns the root of a number, rounded down.
func isqrt(n int) int {
	r := mul(n)
	return int(r.Sqrt(r).Int64())
}

// P5.1
func TestTouchOfWhatIsWrong(t *testing.T) {
	good := on(0, 0, 0)
	for _, w := range wrongBodies() {
		is, e := contact.Touch(w, good)
		refuse(t, is, e, api.ErrArg, "Touch", w, good)
		is, e = contact.Touch(good, w)
		refuse(t, is, e, api.ErrArg, "Touch", good, w)
		is, e = contact.Touch(w, w)
		refuse(t, is, e, api.ErrArg, "Touch", w, w)
		is, e = contact.Gone(w)
		refuse(t, is, e, api.ErrArg, "Gone", w)
	}
}

// P5.1
func TestGone(t *testing.T) {
	const side, back, start = 2230 * api.MM, 1974 * api.MM, -30173 * api.MM
	for _, c := range []struct {
		x, y api.Fix
		want bool
	}{
		{0, 0, false}, {side, 0, true}, {side - 1, 0, false}, {-side, 0, true}, {1 - side, 0, false}, {side + 1, 0, true}, {far, 0, true}, {-far, 0, true},
		{0, back, false}, {0, back + 1, true}, {0, far, true}, {0, start, false}, {0, start - 1, true}, {0, -far, true},
		{side - 1, back, false}, {1 - side, start, false}, {side, back + 1, true},
	} {
		b := body(1, 3, c.x, c.y, 5, -5)
		for _, b := range []api.Body{b, lost(b), {Moving: b.Moving, Out: true}, spun(b, 7)} {
			is, e := contact.Gone(b)
			hold(t, is, e, c.want, "Gone", b)
		}
	}
}

// P5.4
func TestMomentum(t *testing.T) {
	most := full()
	for k := range most {
		most[k].Speed = api.Spot{X: fast, Y: -fast}
	}
	for _, c := range []struct {
		l    []api.Body
		want api.Spot
	}{
		{nil, none}, {full(), api.Spot{Y: 2500}}, {most, api.Spot{X: 16 * fast, Y: -16 * fast}},
		{[]api.Body{body(0, 0, 9, 9, 1, -2), lost(on(1, 0, 0)), body(1, 0, 9, 9, 10, -20)}, api.Spot{X: 11, Y: -22}},
		{[]api.Body{on(0, 0, 7), body(1, 0, 0, 0, 0, -9)}, api.Spot{Y: -2}},
	} {
		sum, e := contact.Momentum(c.l)
		hold(t, sum, e, c.want, "Momentum", c.l)
	}
	for _, l := range wrongScenes() {
		sum, e := contact.Momentum(l)
		refuse(t, sum, e, api.ErrArg, "Momentum", l)
	}
}

// P5.4
func TestStill(t *testing.T) {
	for _, c := range []struct {
		l    []api.Body
		want bool
	}{
		{nil, true}, {full(), false}, {full()[1:], true}, {[]api.Body{spun(on(0, 0, 0), 9), lost(on(1, 0, 0))}, true},
		{[]api.Body{on(0, 0, 0), body(0, 1, 0, 0, 1, 0)}, false}, {[]api.Body{on(0, far, -1)}, false}, {[]api.Body{lost(on(0, 0, 0))}, true},
	} {
		is, e := contact.Still(c.l)
		hold(t, is, e, c.want, "Still", c.l)
	}
	for _, l := range wrongScenes() {
		is, e := contact.Still(l)
		refuse(t, is, e, api.ErrArg, "Still", l)
	}
}

// P5.4
func TestPlace(t *testing.T) {
	l := []api.Stone{{Team: 1, N: 7, At: api.Spot{X: far, Y: -far}}, {Team: 0, N: 7, At: api.Spot{X: -far, Y: far}}, {Team: 1, N: 0}}
	want := []api.Body{body(1, 7, far, -far, 0, 0), body(0, 7, -far, far, 0, 0), body(1, 0, 0, 0, 0, 0)}
	if got, e := contact.Place(l); !slices.Equal(got, want) || e != api.OK {
		t.Errorf("Place of %v is %v, error %d", l, got, e)
	}
	for _, none := range [][]api.Stone{nil, {}} {
		if got, e := contact.Place(none); len(got) != 0 || e != api.OK {
			t.Errorf("Place of nothing is %v, error %d", got, e)
		}
	}
}

// P5.4
func TestPlaceOfWhatIsWrong(t *testing.T) {
	var most []api.Stone
	for _, b := range full() {
		most = append(most, api.Stone{Team: b.Team, N: b.N, At: b.At})
	}
	if got, e := contact.Place(most); len(got) != 16 || e != api.OK {
		t.Errorf("Place of 16 stones is %v, error %d", got, e)
	}
	test := func(l []api.Stone, want api.Errno) {
		t.Helper()
		if got, e := contact.Place(l); len(got) != 0 || e != want {
			t.Errorf("Place of %v is %v, error %d", l, got, e)
		}
	}
	test(append(slices.Clone(most), api.Stone{Team: 1, N: 8}), api.ErrLong)
	test(make([]api.Stone, 17), api.ErrLong)
	test(make([]api.Stone, 2), api.ErrArg)
	for _, w := range wrongBodies() {
		if s := (api.Stone{Team: w.Team, N: w.N, At: w.At}); w.Speed == (api.Spot{X: 300, Y: 400}) && w.Spin == 5 {
			test([]api.Stone{s}, api.ErrArg)
			test([]api.Stone{{}, s}, api.ErrArg)
			test([]api.Stone{s, {}}, api.ErrArg)
		}
	}
	for k := range most[1:] {
		l := slices.Clone(most)
		l[k+1].Team, l[k+1].N = l[k].Team, l[k].N
		test(l, api.ErrArg)
	}
}

// P5.4
func TestStones(t *testing.T) {
	l := []api.Body{body(1, 7, 3, 4, 5, 6), lost(on(0, 0, 0)), spun(on(5, 7, 0), 9), lost(on(1, 9, 0))}
	want := []api.Stone{{Team: 1, N: 7, At: api.Spot{X: 3, Y: 4}}, {Team: 0, N: 5, At: api.Spot{Y: 7}}}
	if got, e := contact.Stones(l); !slices.Equal(got, want) || e != api.OK {
		t.Errorf("Stones of %v is %v, error %d", l, got, e)
	}
	for _, l := range [][]api.Body{nil, {lost(on(0, 0, 0))}} {
		if got, e := contact.Stones(l); len(got) != 0 || e != api.OK {
			t.Errorf("Stones of %v is %v, error %d", l, got, e)
		}
	}
	for _, l := range wrongScenes() {
		if got, e := contact.Stones(l); len(got) != 0 || e != api.ErrArg {
			t.Errorf("Stones of %v is %v, error %d", l, got, e)
		}
	}
}
