package contact

import (
	"testing"

	"besom/api"
	"besom/fixed"
)

// DOC.md, P1: no panic leaves an exported function, and beside an error there is nothing.
func TestAttempt(t *testing.T) {
	for _, c := range []struct {
		do   func() int
		want int
		e    api.Errno
	}{
		{func() int { return 7 }, 7, api.OK},
		{func() int { need(true); return 7 }, 7, api.OK},
		{func() int { need(false); return 7 }, 0, api.ErrArg},
		{func() int { panic(fault(api.ErrRange)) }, 0, api.ErrRange},
		{func() int { panic("another one") }, 0, api.ErrArg},
		{func() int { return must(fixed.Int(api.One, api.Cut)) }, 1, api.OK},
		{func() int { must(fixed.Div(1, 0, api.Cut)); return 7 }, 0, api.ErrZero},
	} {
		if n, e := attempt(c.do); n != c.want || e != c.e {
			t.Errorf("%d, error %d; want %d, error %d", n, e, c.want, c.e)
		}
	}
}

// DOC.md, P1: the ticks of a shot may be left at any one of them, as range asks for.
func TestTicksAreLeft(t *testing.T) {
	r := rink{
		ice:   api.Ice{Side: 1, W: 1, H: 1, Pebble: []int{0}, Polish: []int{0}},
		grain: api.Grain{Flat: 1000, Keen: 1000},
		who:   -1,
	}
	l := []api.Body{{Moving: api.Moving{Speed: api.Spot{Y: 3500}}}}
	had := 0
	for range r.ticks(l, 100) {
		if had++; had == 2 {
			break
		}
	}
	if had != 2 || l[0].At.Y != 4000 || l[0].Speed.Y != 1500 {
		t.Errorf("the shot was left behind %d ticks, at %v", had, l)
	}
}
