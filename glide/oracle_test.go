package glide_test

import (
	"math"
	"math/big"
	"slices"
	"testing"

	"besom/api"
	"besom/ice"
)

// The tests hold the results against the words of the chapter, with numbers of any size (package math/big).

// wrongNumbers are far from all that is valid.
var wrongNumbers = []int{math.MinInt, math.MinInt + 1, -1 << 40, 1 << 40, math.MaxInt}

// bare returns the ice and the grain of the chapter's examples.
func bare() (api.Ice, api.Grain) {
	i := api.Ice{Side: api.MaxPlace, W: 1, H: 1, Pebble: []int{0}, Polish: []int{0}}
	return i, api.Grain{Flat: 1000, Keen: 1000, Bend: 500, Wear: 10}
}

// up returns a stone at (0, 0) that goes along Y.
func up(speed api.Fix, spin int) api.Moving {
	return api.Moving{Speed: api.Spot{Y: speed}, Spin: spin}
}

// clone returns ice in memory of its own.
func clone(i api.Ice) api.Ice {
	i.Pebble, i.Polish = slices.Clone(i.Pebble), slices.Clone(i.Polish)
	return i
}

// same reports whether ice is equal.
func same(a, b api.Ice) bool {
	frame := a.Corner == b.Corner && a.Side == b.Side && a.W == b.W && a.H == b.H
	return frame && slices.Equal(a.Pebble, b.Pebble) && slices.Equal(a.Polish, b.Polish)
}

// state makes numbers that look like chance, always the same ones.
type state uint64

// below returns a number from 0 to n - 1.
func (s *state) below(n int) int {
	*s = *s*6364136223846793005 + 1442695040888963407
	return int(uint64(*s)>>31) % n
}

// from returns a number from least to most.
func (s *state) from(least, most int) int { return least + s.below(most-least+1) }

// grain returns a grain; the brake is often great, so that runs are short.
func (s *state) grain() api.Grain {
	flat := s.from(1, api.MaxSlow)
	return api.Grain{Flat: api.Fix(flat), Keen: api.Fix(s.from(1, flat)), Swept: s.from(0, 1000), Bend: s.from(0, 1000), Wear: s.from(0, 300)}
}

// ice returns ice of a few cells around (0, 0), over which runs of that grain may go.
func (s *state) ice(g api.Grain) api.Ice {
	i := api.Ice{Side: g.Flat * api.Fix(s.from(1, 20)), W: s.from(1, 6), H: s.from(1, 6)}
	i.Corner = api.Spot{X: -i.Side * api.Fix(s.from(0, i.W)), Y: -i.Side * api.Fix(s.from(0, i.H))}
	for range i.W * i.H {
		i.Pebble = append(i.Pebble, s.from(0, 1000))
		i.Polish = append(i.Polish, s.from(0, 1000))
	}
	return i
}

// even returns ice that is the same everywhere where a stone may be.
func (s *state) even() api.Ice {
	corner := api.Spot{X: -api.MaxPlace, Y: -api.MaxPlace}
	pebble, polish := []int{s.from(0, 1000)}, []int{s.from(0, 1000)}
	return api.Ice{Corner: corner, Side: api.MaxPlace, W: 3, H: 3, Pebble: slices.Repeat(pebble, 9), Polish: slices.Repeat(polish, 9)}
}

// stone returns a stone near (0, 0), whose speed is often a few times the brake of a grain.
func (s *state) stone(g api.Grain) api.Moving {
	far := 10 * int(g.Flat)
	m := api.Moving{Spin: s.from(-api.MaxSpin, api.MaxSpin)}
	m.At = api.Spot{X: api.Fix(s.from(-far, far)), Y: api.Fix(s.from(-far, far))}
	fast := min(s.from(1, 20)*int(g.Flat), api.MaxSpeed)
	if s.below(9) == 0 {
		fast = api.MaxSpeed
	}
	m.Speed = api.Spot{X: api.Fix(s.from(-fast, fast)), Y: api.Fix(s.from(-fast, fast))}
	switch s.below(9) {
	case 0:
		m.Speed.X = 0
	case 1:
		m.Speed.Y = 0
	}
	return m
}

// brooms returns brooms for about the first ticks.
func (s *state) brooms(ticks int) []api.Broom {
	var out []api.Broom
	for range s.below(5) {
		to := s.from(0, ticks)
		out = append(out, api.Broom{From: s.from(0, to), To: to, Strength: s.from(0, 1000)})
	}
	return out
}

// mul returns a product of any size.
func mul(l ...int) *big.Int {
	out := big.NewInt(1)
	for _, n := range l {
		out.Mul(out, big.NewInt(int64(n)))
	}
	return out
}

// nearest returns a num / den, which are not below 0, rounded to the nearest integer, halves up.
func nearest(a api.Fix, num, den int) int {
	n := mul(2, int(a), num)
	n.Add(n, mul(den))
	return int(n.Quo(n, mul(2, den)).Int64())
}

// cut returns a b / den, rounded towards 0.
func cut(a, b, den int) int {
	n := mul(a, b)
	return int(n.Quo(n, mul(den)).Int64())
}

// square returns the square of a length.
func square(s api.Spot) *big.Int {
	return new(big.Int).Add(mul(int(s.X), int(s.X)), mul(int(s.Y), int(s.Y)))
}

// share returns n / (the root of whole), rounded towards 0 to a Fix.
func share(n api.Fix, whole *big.Int) int {
	q := mul(api.One, api.One, int(n), int(n))
	u := int(q.Sqrt(q.Quo(q, whole)).Int64())
	if n < 0 {
		return -u
	}
	return u
}

// isPlace reports whether a place, and isSpeed whether a speed is valid.
func isPlace(s api.Spot) bool {
	return max(s.X, s.Y, -s.X, -s.Y) <= api.MaxPlace
}

func isSpeed(s api.Spot) bool {
	return max(s.X, s.Y, -s.X, -s.Y) <= api.MaxSpeed
}

// tick returns a stone after a tick, and whether it is still valid.
func tick(i api.Ice, g api.Grain, m api.Moving, n int) (api.Moving, bool) {
	slow, _ := ice.Slow(i, g, m.At)
	side, _ := ice.Bend(i, g, m.At)
	b := nearest(slow, 5000-n, 5000)
	c := cut(nearest(side, 2000-n, 2000), m.Spin, 1000)
	whole := square(m.Speed)
	if int(new(big.Int).Sqrt(whole).Int64()) <= b {
		return api.Moving{At: m.At}, true
	}
	x, y, a := share(m.Speed.X, whole), share(m.Speed.Y, whole), cut(b, c, api.One)
	m.Speed.X += api.Fix(-cut(x, b, api.One) + cut(-y, a, api.One))
	m.Speed.Y += api.Fix(-cut(y, b, api.One) + cut(x, a, api.One))
	m.At.X += m.Speed.X
	m.At.Y += m.Speed.Y
	return m, isPlace(m.At) && isSpeed(m.Speed)
}

// strongest returns the strength at a tick.
func strongest(l []api.Broom, t int) int {
	all := []int{0}
	for _, b := range l {
		if b.From <= t && b.To > t {
			all = append(all, b.Strength)
		}
	}
	return slices.Max(all)
}

// follow returns a stone at the start of a run, and behind each of its ticks, and whether all of them are valid.
func follow(i api.Ice, g api.Grain, m api.Moving, l []api.Broom, most int) ([]api.Moving, bool) {
	out := []api.Moving{m}
	for t := 0; t < most && m.Speed != (api.Spot{}); t++ {
		ok := false
		if m, ok = tick(i, g, m, strongest(l, t)); !ok {
			return nil, false
		}
		out = append(out, m)
	}
	return out, true
}

// wrongStones are not valid, each for one reason.
func wrongStones() []api.Moving {
	var out []api.Moving
	add := func(change func(m *api.Moving)) {
		m := up(3500, 7)
		change(&m)
		out = append(out, m)
	}
	for _, n := range append(wrongNumbers, api.MaxPlace+1, -api.MaxPlace-1) {
		add(func(m *api.Moving) { m.At.X = api.Fix(n) })
		add(func(m *api.Moving) { m.At.Y = api.Fix(n) })
	}
	for _, n := range append(wrongNumbers, api.MaxSpeed+1, -api.MaxSpeed-1) {
		add(func(m *api.Moving) { m.Speed.X = api.Fix(n) })
		add(func(m *api.Moving) { m.Speed.Y = api.Fix(n) })
	}
	for _, n := range append(wrongNumbers, api.MaxSpin+1, -api.MaxSpin-1) {
		add(func(m *api.Moving) { m.Spin = n })
		add(func(m *api.Moving) { *m = api.Moving{Spin: n} })
	}
	return out
}

// wrongBrooms are not valid, each for one reason.
func wrongBrooms() [][]api.Broom {
	out := [][]api.Broom{make([]api.Broom, api.MaxBrooms+1)}
	add := func(change func(b *api.Broom)) {
		b := api.Broom{From: 1, To: 3, Strength: 500}
		good := b
		change(&b)
		out = append(out, []api.Broom{b}, []api.Broom{good, b}, []api.Broom{b, good})
	}
	add(func(b *api.Broom) { b.From = -1 })
	add(func(b *api.Broom) { b.From = 4 })
	add(func(b *api.Broom) { b.From, b.To = 0, -1 })
	add(func(b *api.Broom) { b.From, b.To = -2, -1 })
	add(func(b *api.Broom) { b.To = api.MaxTicks + 1 })
	add(func(b *api.Broom) { b.From, b.To = api.MaxTicks+1, api.MaxTicks+1 })
	add(func(b *api.Broom) { b.Strength = -1 })
	add(func(b *api.Broom) { b.Strength = 1001 })
	for _, n := range wrongNumbers {
		add(func(b *api.Broom) { b.From = n })
		add(func(b *api.Broom) { b.To = n })
		add(func(b *api.Broom) { b.From, b.To = n, n })
		add(func(b *api.Broom) { b.Strength = n })
	}
	return out
}

// wrongIces are not valid: a few of the reasons, which the tests of layer 3 have all of.
func wrongIces() []api.Ice {
	var out []api.Ice
	add := func(change func(i *api.Ice)) {
		i, _ := bare()
		change(&i)
		out = append(out, i)
	}
	add(func(i *api.Ice) { *i = api.Ice{} })
	add(func(i *api.Ice) { i.Corner.X = math.MinInt64 })
	add(func(i *api.Ice) { i.Side = 0 })
	add(func(i *api.Ice) { i.W = 2 })
	add(func(i *api.Ice) { i.H = math.MaxInt })
	add(func(i *api.Ice) { i.Pebble[0] = 1001 })
	add(func(i *api.Ice) { i.Polish = nil })
	return out
}

// wrongGrains are not valid: a few of the reasons.
func wrongGrains() []api.Grain {
	var out []api.Grain
	add := func(change func(g *api.Grain)) {
		_, g := bare()
		change(&g)
		out = append(out, g)
	}
	add(func(g *api.Grain) { *g = api.Grain{} })
	add(func(g *api.Grain) { g.Keen = 1001 })
	add(func(g *api.Grain) { g.Flat = api.MaxSlow + 1 })
	add(func(g *api.Grain) { g.Bend = 1001 })
	add(func(g *api.Grain) { g.Wear = -1 })
	return out
}

// hold tests that a value is as it must be.
func hold[V comparable](t *testing.T, got V, e api.Errno, want V, what string, args ...any) {
	t.Helper()
	if got != want || e != api.OK {
		t.Errorf("%s of %v is %v, error %d; want %v", what, args, got, e, want)
	}
}

// refuse tests that a call has an error, and nothing beside it.
func refuse[V comparable](t *testing.T, got V, e, want api.Errno, what string, args ...any) {
	t.Helper()
	var none V
	if got != none || e != want {
		t.Errorf("%s of %v is %v, error %d; want the error %d", what, args, got, e, want)
	}
}
