package glide

import (
	"testing"

	"besom/api"
	"besom/fixed"
)

// DOC.md, P1: no panic leaves an exported function, and beside an error there is nothing.
func TestAttempt(t *testing.T) {
	for _, c := range []struct {
		do   func() int
		want int
		e    api.Errno
	}{
		{func() int { return 7 }, 7, api.OK},
		{func() int { need(true); return 7 }, 7, api.OK},
		{func() int { need(false); return 7 }, 0, api.ErrArg},
		{func() int { panic(fault(api.ErrRange)) }, 0, api.ErrRange},
		{func() int { panic("another one") }, 0, api.ErrArg},
		{func() int { return must(fixed.Int(api.One, api.Cut)) }, 1, api.OK},
		{func() int { must(fixed.Div(1, 0, api.Cut)); return 7 }, 0, api.ErrZero},
	} {
		if n, e := attempt(c.do); n != c.want || e != c.e {
			t.Errorf("%d, error %d; want %d, error %d", n, e, c.want, c.e)
		}
	}
}

// DOC.md, P1: the ticks of a run may be left at any one of them, as range asks for.
func TestStepsAreLeft(t *testing.T) {
	r := run{
		ice:   api.Ice{Side: 1, W: 1, H: 1, Pebble: []int{0}, Polish: []int{0}},
		grain: api.Grain{Flat: 1000, Keen: 1000},
		stone: api.Moving{Speed: api.Spot{Y: 3500}},
		most:  100,
	}
	want := 0
	for s := range r.steps() {
		if want++; s.number != want {
			t.Errorf("the tick %d has the number %d", want, s.number)
		}
		if want == 2 {
			break
		}
	}
	if want != 2 {
		t.Errorf("the run was left behind %d ticks", want)
	}
}
