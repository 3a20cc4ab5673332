package fixed

import "besom/api"

// pair is the same coordinate of two spots.
type pair [2]api.Fix

// each returns the spot that a step makes of what X and Y are made of.
func each[T any](x, y T, step func(T) api.Fix) api.Spot {
	return api.Spot{X: step(x), Y: step(y)}
}

// Plus returns a sum.
func Plus(a, b api.Spot) (api.Spot, api.Errno) {
	return attempt(func() api.Spot {
		need(a.X, a.Y, b.X, b.Y)
		return each(pair{a.X, b.X}, pair{a.Y, b.Y}, func(p pair) api.Fix { return fitting(p[0] + p[1]) })
	})
}

// Minus returns a difference.
func Minus(a, b api.Spot) (api.Spot, api.Errno) {
	return attempt(func() api.Spot {
		need(a.X, a.Y, b.X, b.Y)
		return each(pair{a.X, b.X}, pair{a.Y, b.Y}, func(p pair) api.Fix { return fitting(p[0] - p[1]) })
	})
}

// Times returns a spot times a number.
func Times(a api.Spot, b api.Fix, how int) (api.Spot, api.Errno) {
	return attempt(func() api.Spot {
		need(a.X, a.Y, b)
		up := way(how)
		return each(a.X, a.Y, func(n api.Fix) api.Fix { return product(n, b).over(api.One, up) })
	})
}

// Dot returns the product of two spots.
func Dot(a, b api.Spot, how int) (api.Fix, api.Errno) {
	return attempt(func() api.Fix {
		need(a.X, a.Y, b.X, b.Y)
		return dot(a, b).over(api.One, way(how))
	})
}

// dot returns the exact product of two spots.
func dot(a, b api.Spot) wide {
	return product(a.X, b.X).plus(product(a.Y, b.Y))
}

// Length returns the length of a spot.
func Length(a api.Spot, how int) (api.Fix, api.Errno) {
	return attempt(func() api.Fix {
		need(a.X, a.Y)
		return dot(a, a).root(way(how))
	})
}

// Unit returns a spot, divided by its length.
func Unit(a api.Spot) (api.Spot, api.Errno) {
	return attempt(func() api.Spot {
		need(a.X, a.Y)
		if a == (api.Spot{}) {
			panic(fault(api.ErrZero))
		}
		square := dot(a, a)
		return each(a.X, a.Y, func(n api.Fix) api.Fix { return share(n, square) })
	})
}

// share returns n by the root of square, rounded by Cut. Its size u is the greatest integer for which u * u * square is at most n * n * One * One; it is found bit by bit.
func share(n api.Fix, square wide) api.Fix {
	most := product(n, n).times(api.One * api.One)
	u := uint64(0)
	for bit := uint64(api.One); bit > 0; bit /= 2 {
		if square.times((u+bit)*(u+bit)).compare(most) <= 0 {
			u += bit
		}
	}
	if n < 0 {
		return -api.Fix(u)
	}
	return api.Fix(u)
}

// Left returns a spot, turned to the left.
func Left(a api.Spot) api.Spot {
	if Check(a.X) != api.OK || Check(a.Y) != api.OK {
		return api.Spot{}
	}
	return api.Spot{X: -a.Y, Y: a.X}
}

// Farther compares two lengths.
func Farther(a, b api.Spot) (int, api.Errno) {
	return attempt(func() int {
		need(a.X, a.Y, b.X, b.Y)
		return dot(a, a).compare(dot(b, b))
	})
}

// Turn tells to which side of one spot another one points.
func Turn(a, b api.Spot) (int, api.Errno) {
	return attempt(func() int {
		need(a.X, a.Y, b.X, b.Y)
		return product(a.X, b.Y).compare(product(a.Y, b.X))
	})
}

// Within reports whether a length is at most a number.
func Within(a api.Spot, r api.Fix) (bool, api.Errno) {
	return attempt(func() bool {
		need(a.X, a.Y, r)
		return r >= 0 && dot(a, a).compare(product(r, r)) <= 0
	})
}
