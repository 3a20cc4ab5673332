package ice

import (
	"iter"
	"testing"

	"besom/api"
)

// DOC.md, P1: cells may be left at any one of them, as range asks for.
func TestCellsAreLeft(t *testing.T) {
	i := api.Ice{Side: 10, W: 3, H: 2}
	low, high := api.Spot{}, api.Spot{X: 30, Y: 20}
	for k, l := range []iter.Seq[int]{
		all(i),
		boxed(i, low, high),
		touched(i, high, low),
		only(all(i), func(c int) bool { return c != 2 }),
	} {
		want := 0
		for c := range l {
			if c != want {
				t.Errorf("the iterator %d yields %d, not %d", k, c, want)
			}
			if want++; c == 1 {
				break
			}
		}
		if want != 2 {
			t.Errorf("the iterator %d was left behind %d cells", k, want)
		}
	}
}
