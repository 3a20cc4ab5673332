package ice

import (
	"besom/api"
	"besom/fixed"
)

// Weight returns the speed that a stone needs for a way along the sheet.
func Weight(i api.Ice, g api.Grain, from api.Spot, to api.Fix) (api.Fix, api.Errno) {
	if !areValid(i, from) || CheckGrain(g) != api.OK || to <= from.Y || to > api.MaxPlace {
		return 0, api.ErrArg
	}
	return fixed.Root(2*work(i, g, from, to), api.Up)
}

// work returns the sum of brake times length over the pieces of a way along the sheet.
func work(i api.Ice, g api.Grain, at api.Spot, to api.Fix) api.Fix {
	sum := api.Fix(0)
	walk := func(end api.Fix) {
		piece, _ := fixed.Mul(slow(i, g, at), end-at.Y, api.Up)
		sum += piece
		at.Y = end
	}
borders:
	for y := range i.H + 1 {
		switch border := rows(i).border(y); {
		case border >= to:
			break borders
		case border > at.Y:
			walk(border)
		}
	}
	walk(to)
	return sum
}
