// Package fixed is layer 1: see shared/doc/01-fixed.md.
package fixed

import "besom/api"

// Check returns ErrArg unless a number is valid.
func Check(a api.Fix) api.Errno {
	if a < -api.MaxFix || a > api.MaxFix {
		return api.ErrArg
	}
	return api.OK
}

// Of returns an integer.
func Of(n int) (api.Fix, api.Errno) {
	const most = api.MaxFix / api.One
	if n < -most || n > most {
		return 0, api.ErrRange
	}
	return api.Fix(n) * api.One, api.OK
}

// Int returns a number, rounded to an integer.
func Int(a api.Fix, how int) (int, api.Errno) {
	return attempt(func() int {
		need(a)
		return int(product(a, 1).over(api.One, way(how)))
	})
}

// Add returns a sum.
func Add(a, b api.Fix) (api.Fix, api.Errno) {
	return attempt(func() api.Fix {
		need(a, b)
		return fitting(a + b)
	})
}

// Sub returns a difference.
func Sub(a, b api.Fix) (api.Fix, api.Errno) {
	return attempt(func() api.Fix {
		need(a, b)
		return fitting(a - b)
	})
}

// Mul returns a product.
func Mul(a, b api.Fix, how int) (api.Fix, api.Errno) {
	return attempt(func() api.Fix {
		need(a, b)
		return product(a, b).over(api.One, way(how))
	})
}

// Div returns a quotient.
func Div(a, b api.Fix, how int) (api.Fix, api.Errno) {
	return attempt(func() api.Fix {
		need(a, b)
		return quotient(product(a, api.One), b, way(how))
	})
}

// Scale returns a number times a quotient.
func Scale(a api.Fix, num, den, how int) (api.Fix, api.Errno) {
	return attempt(func() api.Fix {
		need(a)
		up := way(how)
		needRate(num)
		needRate(den)
		return quotient(product(a, api.Fix(num)), api.Fix(den), up)
	})
}

// needRate stops with ErrArg if a factor or a divisor is too great.
func needRate(n int) {
	if n < -api.MaxRate || n > api.MaxRate {
		panic(fault(api.ErrArg))
	}
}

// quotient returns w / den, rounded, or stops with ErrZero.
func quotient(w wide, den api.Fix, up rounding) api.Fix {
	if den == 0 {
		panic(fault(api.ErrZero))
	}
	return w.over(den, up)
}

// Root returns a root.
func Root(a api.Fix, how int) (api.Fix, api.Errno) {
	return attempt(func() api.Fix {
		need(a)
		up := way(how)
		if a < 0 {
			panic(fault(api.ErrLess))
		}
		return product(a, api.One).root(up)
	})
}
