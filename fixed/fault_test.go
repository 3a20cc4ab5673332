package fixed

import (
	"testing"

	"besom/api"
)

// DOC.md, P1: no panic leaves an exported function, and beside an error there is nothing.
func TestAttempt(t *testing.T) {
	for _, c := range []struct {
		do   func() int
		want int
		e    api.Errno
	}{
		{func() int { return 7 }, 7, api.OK},
		{func() int { panic(fault(api.ErrZero)) }, 0, api.ErrZero},
		{func() int { panic("another one") }, 0, api.ErrArg},
	} {
		if n, e := attempt(c.do); n != c.want || e != c.e {
			t.Errorf("%d, error %d; want %d, error %d", n, e, c.want, c.e)
		}
	}
}
