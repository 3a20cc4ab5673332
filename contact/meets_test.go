package contact_test

import (
	"testing"

	"besom/api"
	"besom/contact"
)

// two is what Meet returns beside its error.
type two struct {
	a, b api.Body
	met  bool
}

// meets calls Meet.
func meets(a, b api.Body, elastic int) (two, api.Errno) {
	a, b, met, e := contact.Meet(a, b, elastic)
	return two{a, b, met}, e
}

// P5.2
func TestMeetExamples(t *testing.T) {
	const near = 19000000
	for _, c := range []struct {
		a, b    api.Body
		elastic int
		want    two
	}{
		{on(0, 0, 20000), on(1, near, 0), 1000, two{on(0, 0, 0), on(1, near, 20000), true}},
		{on(0, 0, 20000), on(1, near, 0), 800, two{on(0, 0, 2000), on(1, near, 18000), true}},
		{on(0, 0, 20000), on(1, near, 0), 0, two{on(0, 0, 10000), on(1, near, 10000), true}},
		{on(0, 0, 3), on(1, near, 0), 0, two{on(0, 0, 2), on(1, near, 1), true}},
		{on(0, 0, 3), on(1, near, 0), 999, two{on(0, 0, 1), on(1, near, 2), true}},
		{on(0, 0, 3), on(1, near, 0), 1000, two{on(0, 0, 0), on(1, near, 3), true}},
		{on(0, 0, 1), on(1, near, 0), 0, two{on(0, 0, 1), on(1, near, 0), true}}, // they meet, and nothing changes
		{on(0, near, 0), on(1, 0, 20000), 1000, two{on(0, near, 20000), on(1, 0, 0), true}},
		{on(0, near, 0), on(1, 0, 1), 0, two{on(0, near, 0), on(1, 0, 1), true}},
		{on(0, near, 0), on(1, 0, 3), 0, two{on(0, near, 1), on(1, 0, 2), true}},
		{body(0, 0, 0, 0, 50, 0), body(1, 0, near, 0, -30, 9), 1000, two{body(0, 0, 0, 0, -30, 0), body(1, 0, near, 0, 50, 9), true}},
		{body(0, 0, 0, 0, 7, 20000), on(1, near, 0), 1000, two{body(0, 0, 0, 0, 7, 0), on(1, near, 20000), true}}, // what is aside stays
		{spun(on(0, 0, 20000), 5), spun(on(1, near, 0), -7), 1000, two{spun(on(0, 0, 0), 5), spun(on(1, near, 20000), -7), true}},
		{on(3, 0, 20000), on(3, near, 0), 1000, two{on(3, 0, 0), on(3, near, 20000), true}}, // one name
		{on(0, 0, fast), on(1, 1, -fast), 1000, two{on(0, 0, -fast), on(1, 1, fast), true}},
	} {
		got, e := meets(c.a, c.b, c.elastic)
		hold(t, got, e, c.want, "Meet", c.a, c.b, c.elastic)
	}
}

// P5.2: bodies that do not touch, or do not go to each other, stay as they are.
func TestNotMet(t *testing.T) {
	const near, reach = 19000000, 290 * api.MM
	for _, c := range []struct{ a, b api.Body }{
		{on(0, 0, 0), on(1, near, 0)}, {on(0, 0, -5), on(1, near, 0)}, {on(0, 0, 0), on(1, near, 5)}, {on(0, 0, 5), on(1, near, 5)},
		{on(0, 0, 5), on(1, near, 6)}, {body(0, 0, 0, 0, 100, 0), on(1, near, 0)}, {on(0, 0, 20000), on(1, reach+1, 0)},
		{on(0, 0, 20000), on(1, 0, -20000)}, {on(0, 0, 20000), lost(on(1, near, 0))}, {lost(on(0, 0, 0)), on(1, near, -20000)},
		{api.Body{Moving: on(0, 0, 20000).Moving, Out: true}, spun(on(1, near, 0), 9)},
		{on(0, 0, fast), on(1, far, -fast)},
		// They go to each other, but by less than 1.
		{body(0, 0, 0, 0, 0, 1), body(1, 0, 3, 4, 0, 0)}, {body(0, 0, 0, 0, 1, 0), body(1, 0, 4, -3, 0, 0)},
	} {
		for _, k := range []int{0, 500, 1000} {
			got, e := meets(c.a, c.b, k)
			hold(t, got, e, two{c.a, c.b, false}, "Meet", c.a, c.b, k)
		}
	}
}

// P5.2
func TestMeet(t *testing.T) {
	s := state(52)
	met, wild := 0, 0
	for range 60000 {
		a, b, k := on(0, 0, 0), body(1, 5, 0, 0, 0, 0), s.elastic()
		a.At = s.around([]int{far, 5, 1000 * api.MM}[s.below(3)])
		way := s.around([]int{2, 300, 300 * api.MM, 200 * api.MM}[s.below(4)])
		b.At = api.Spot{X: min(max(a.At.X+way.X, -far), far), Y: min(max(a.At.Y+way.Y, -far), far)}
		for _, m := range []*api.Body{&a, &b} {
			m.Spin = s.from(-1000, 1000)
			if m.Speed = s.speed(); s.below(4) == 0 {
				m.Speed = s.around(fast)
			}
		}
		got, e := meets(a, b, k)
		if !touch(a, b) {
			hold(t, got, e, two{a, b, false}, "Meet", a, b, k)
			continue
		}
		x, y, is, ok := meet(a, b, k)
		if !ok {
			wild++
			refuse(t, got, e, api.ErrRange, "Meet", a, b, k)
			continue
		}
		if is {
			met++
		}
		hold(t, got, e, two{x, y, is}, "Meet", a, b, k)
	}
	if met < 1000 || wild < 100 {
		t.Errorf("only %d met, and %d speeds were not valid", met, wild)
	}
}

// P5.2: a speed that would not be valid, of either body, in either coordinate.
func TestMeetTooFast(t *testing.T) {
	// Aside of each other by half a right angle: what goes along the line of centres changes bodies, the rest stays.
	const d = 100 * api.MM
	x := body(1, 0, d, d, 0, 0)
	for _, c := range []struct {
		a, b  api.Spot // speeds
		wrong bool
	}{
		{api.Spot{X: fast, Y: -fast}, api.Spot{X: -fast, Y: -fast}, true},
		{api.Spot{X: -fast, Y: fast}, api.Spot{X: -fast, Y: -fast}, true},
		{api.Spot{X: fast, Y: fast}, api.Spot{X: fast, Y: -fast}, true},
		{api.Spot{X: fast, Y: fast}, api.Spot{X: -fast, Y: fast}, true},
		{api.Spot{X: fast, Y: fast}, api.Spot{X: -fast, Y: -fast}, false},
		{api.Spot{X: fast / 2, Y: -fast / 2}, api.Spot{X: -fast / 2, Y: -fast / 2}, false},
	} {
		a, b := body(0, 0, 0, 0, c.a.X, c.a.Y), x
		b.Speed = c.b
		got, e := meets(a, b, 1000)
		if _, _, _, ok := meet(a, b, 1000); ok == c.wrong {
			t.Errorf("%v and %v are no example", a, b)
		}
		if c.wrong {
			refuse(t, got, e, api.ErrRange, "Meet", a, b)
		} else if e != api.OK || !got.met {
			t.Errorf("Meet of %v and %v is %v, error %d", a, b, got, e)
		}
	}
}

// P5.2
func TestMeetOfWhatIsWrong(t *testing.T) {
	const d = 100 * api.MM
	for _, good := range []two{
		{a: on(0, 0, 20000), b: on(1, 19000000, 0)}, {a: on(0, 0, 0), b: on(1, far, 0)},
		{a: body(0, 0, 0, 0, fast, -fast), b: body(1, 0, d, d, -fast, -fast)}, // ErrRange, but for what is wrong
	} {
		for _, w := range wrongBodies() {
			got, e := meets(w, good.b, 1000)
			refuse(t, got, e, api.ErrArg, "Meet", w, good.b)
			got, e = meets(good.a, w, 1000)
			refuse(t, got, e, api.ErrArg, "Meet", good.a, w)
		}
		for _, k := range append(wrongNumbers, -1, 1001) {
			got, e := meets(good.a, good.b, k)
			refuse(t, got, e, api.ErrArg, "Meet", good.a, good.b, k)
		}
	}
}
