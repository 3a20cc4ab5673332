package glide_test

import (
	"math/big"
	"testing"

	"besom/api"
	"besom/glide"
	"besom/ice"
)

// P4.6: two runs, one behind the other, are one run, each time.
func TestLawOfParts(t *testing.T) {
	s := state(46)
	for range 2000 {
		g := s.grain()
		i, m, l := s.ice(g), s.stone(g), s.brooms(40)
		a, b := s.from(0, 20), s.from(0, 30)
		half, n, e := glide.Run(i, g, m, l, a)
		end, rest, f := glide.Run(i, g, half, earlier(l, a), b)
		if e != api.OK || f != api.OK {
			t.Fatalf("errors %d, %d", e, f)
		}
		for range 2 {
			got, all, e := glide.Run(i, g, m, l, a+b)
			hold(t, ended{got, all}, e, ended{end, n + rest}, "Run", i, g, m, l, a, b)
		}
	}
}

// earlier returns brooms as they are at so many ticks later.
func earlier(l []api.Broom, ticks int) []api.Broom {
	var out []api.Broom
	for _, b := range l {
		out = append(out, api.Broom{From: max(b.From-ticks, 0), To: max(b.To-ticks, 0), Strength: b.Strength})
	}
	return out
}

// P4.6: a stone that goes straight.
func TestLawOfStraightRuns(t *testing.T) {
	s := state(47)
	for range 2000 {
		i, g := s.even(), s.grain()
		v := min(api.Fix(s.from(1, 30))*g.Flat+api.Fix(s.below(int(g.Flat))), api.MaxSpeed)
		b, _ := ice.Slow(i, g, api.Spot{})
		if b == 0 {
			continue
		}
		want, ticks := api.Fix(0), 0
		for n := v - b; n > 0 && ticks < api.MaxTicks; n -= b {
			want += n
			ticks++
		}
		if ticks == api.MaxTicks || want > api.MaxPlace {
			continue
		}
		for _, sign := range []api.Fix{1, -1} {
			end, n, e := glide.Run(i, g, up(sign*v, 0), nil, api.MaxTicks)
			hold(t, ended{end, n}, e, ended{api.Moving{At: api.Spot{Y: sign * want}}, ticks + 1}, "Run", i, g, v)
		}
	}
}

// P4.6: sweeping makes a straight way no shorter.
func TestLawOfSweeping(t *testing.T) {
	s := state(48)
	for range 3000 {
		i, g, l := s.even(), s.grain(), s.brooms(20)
		more := append(s.brooms(20), l...)
		for k := range more {
			more[k].Strength += s.below(1001 - more[k].Strength)
		}
		m := up(api.Fix(s.from(1, 20*int(g.Flat))), 0)
		short, _, e := glide.Run(i, g, m, l, 50)
		far, _, f := glide.Run(i, g, m, more, 50)
		if e != api.OK || f != api.OK || far.At.Y < short.At.Y || far.At.X != 0 {
			t.Errorf("%v on %v, %v comes to %v with %v, to %v with %v, errors %d, %d", m, i, g, short, l, far, more, e, f)
		}
	}
}

// P4.6: mirrored runs.
func TestLawOfMirrors(t *testing.T) {
	s := state(49)
	for range 3000 {
		i, g := s.even(), s.grain()
		m, l, most := s.stone(g), s.brooms(30), s.from(0, 50)
		end, n, e := glide.Run(i, g, m, l, most)
		for _, turn := range []func(*api.Moving){
			func(m *api.Moving) { m.At.X, m.Speed.X = -m.At.X, -m.Speed.X },
			func(m *api.Moving) { m.At.Y, m.Speed.Y = -m.At.Y, -m.Speed.Y },
			func(m *api.Moving) { m.At, m.Speed = swap(m.At), swap(m.Speed) },
		} {
			a, b := m, end
			for _, side := range []*api.Moving{&a, &b} {
				turn(side)
				side.Spin = -side.Spin
			}
			got, k, f := glide.Run(i, g, a, l, most)
			if got != b || k != n || e != f || e != api.OK {
				t.Errorf("the run of %v ends with %v, errors %d, %d; want %v", a, got, e, f, b)
			}
		}
	}
}

// swap mirrors a spot at the line between the axes.
func swap(s api.Spot) api.Spot {
	return api.Spot{X: s.Y, Y: s.X}
}

// P4.6: no tick makes a stone faster than by 4.
func TestLawOfSpeed(t *testing.T) {
	s := state(50)
	for range 20000 {
		g := s.grain()
		if s.below(2) == 0 { // turned as much as may be
			g.Bend, g.Swept = 1000, 0
		}
		i, m := s.ice(g), s.stone(g)
		if s.below(2) == 0 {
			m.Spin = 1000 - 2000*s.below(2)
		}
		next, e := glide.Tick(i, g, m, s.from(0, 1000))
		if e != api.OK {
			t.Fatalf("the tick of %v has the error %d", m, e)
		}
		// next is at most m + 4: the square of next less that of m, and less 16, is at most 8 m.
		gain := new(big.Int).Sub(square(next.Speed), square(m.Speed))
		gain.Sub(gain, mul(16))
		if gain.Sign() > 0 && gain.Mul(gain, gain).Cmp(new(big.Int).Mul(square(m.Speed), mul(64))) > 0 {
			t.Errorf("%v goes to %v", m, next)
		}
	}
}
