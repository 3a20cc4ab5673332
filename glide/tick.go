package glide

import (
	"besom/api"
	"besom/fixed"
	"besom/ice"
)

// ticked returns a valid stone after a tick.
func ticked(i api.Ice, g api.Grain, m api.Moving, strength int) api.Moving {
	b := brake(i, g, m, strength)
	if must(fixed.Length(m.Speed, api.Down)) <= b {
		return api.Moving{At: m.At}
	}
	m.Speed = turned(m.Speed, b, bend(i, g, m, strength))
	m.At = must(fixed.Plus(m.At, m.Speed))
	if Check(m) != api.OK {
		panic(fault(api.ErrRange))
	}
	return m
}

// brake returns how much speed a tick takes from a stone.
func brake(i api.Ice, g api.Grain, m api.Moving, strength int) api.Fix {
	const whole = 5 * strongest // the strongest broom takes away a fifth
	return must(fixed.Scale(must(ice.Slow(i, g, m.At)), whole-strength, whole, api.Near))
}

// bend returns how much of the brake turns a stone to the left.
func bend(i api.Ice, g api.Grain, m api.Moving, strength int) api.Fix {
	const whole = 2 * strongest // the strongest broom takes away a half
	c := must(fixed.Scale(must(ice.Bend(i, g, m.At)), whole-strength, whole, api.Near))
	return must(fixed.Scale(c, m.Spin, api.MaxSpin, api.Cut))
}

// turned returns a speed above b, braked by b and turned to the left by c times b.
func turned(speed api.Spot, b, c api.Fix) api.Spot {
	u := must(fixed.Unit(speed))
	a := must(fixed.Mul(b, c, api.Cut))
	back := must(fixed.Times(u, b, api.Cut))
	aside := must(fixed.Times(fixed.Left(u), a, api.Cut))
	return must(fixed.Plus(must(fixed.Minus(speed, back)), aside))
}
