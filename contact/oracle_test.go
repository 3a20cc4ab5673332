package contact_test

import (
	"math"
	"math/big"
	"slices"
	"testing"

	"besom/api"
	"besom/glide"
)

// The tests hold the results against the words of the chapter, with numbers of any size (package math/big). What one stone does alone is taken from layer 4.

// wrongNumbers are far from all that is valid.
var wrongNumbers = []int{math.MinInt, math.MinInt + 1, -1 << 40, 1 << 40, math.MaxInt}

// none is a spot, and a speed, of 0.
var none api.Spot

// bare returns ice that is the same everywhere, and a grain with the brake 1000.
func bare() (api.Ice, api.Grain) {
	return api.Ice{Side: 1, W: 1, H: 1, Pebble: []int{0}, Polish: []int{0}}, api.Grain{Flat: 1000, Keen: 1000}
}

// slick returns ice that brakes nothing.
func slick() (api.Ice, api.Grain) {
	corner := api.Spot{X: -api.MaxPlace, Y: -api.MaxPlace}
	i := api.Ice{Corner: corner, Side: api.MaxPlace, W: 3, H: 3, Pebble: make([]int, 9), Polish: slices.Repeat([]int{1000}, 9)}
	return i, api.Grain{Flat: 1000, Keen: 1000, Swept: 1000}
}

// body returns one with a name, at a place, with a speed.
func body(team, n int, x, y, speedX, speedY api.Fix) api.Body {
	return api.Body{Team: team, N: n, Moving: api.Moving{At: api.Spot{X: x, Y: y}, Speed: api.Spot{X: speedX, Y: speedY}}}
}

// on returns a body of the team 0 on the middle line.
func on(n int, y, speed api.Fix) api.Body {
	return body(0, n, 0, y, 0, speed)
}

// lost returns a body that is out.
func lost(b api.Body) api.Body {
	return api.Body{Team: b.Team, N: b.N, Moving: api.Moving{At: b.At}, Out: true}
}

// spun returns a body with a spin.
func spun(b api.Body, spin int) api.Body {
	b.Spin = spin
	return b
}

// state makes numbers that look like chance, always the same ones.
type state uint64

// below returns a number from 0 to n - 1.
func (s *state) below(n int) int {
	*s = *s*6364136223846793005 + 1442695040888963407
	return int(uint64(*s)>>31) % n
}

// from returns a number from least to most.
func (s *state) from(least, most int) int { return least + s.below(most-least+1) }

// around returns a spot whose numbers are at most so great in size.
func (s *state) around(most int) api.Spot {
	return api.Spot{X: api.Fix(s.from(-most, most)), Y: api.Fix(s.from(-most, most))}
}

// grain returns a grain; the brake is often great, so that shots are short.
func (s *state) grain() api.Grain {
	flat := s.from(1, api.MaxSlow)
	return api.Grain{Flat: api.Fix(flat), Keen: api.Fix(s.from(1, flat)), Swept: s.from(0, 1000), Bend: s.from(0, 1000), Wear: s.from(0, 300)}
}

// ice returns ice of a few cells, which are about as great as stones, around a place.
func (s *state) ice(at api.Spot) api.Ice {
	i := api.Ice{Side: api.Fix(s.from(1, 400*api.MM)), W: s.from(1, 6), H: s.from(1, 6)}
	i.Corner = api.Spot{X: at.X - i.Side*api.Fix(s.from(0, i.W)), Y: at.Y - i.Side*api.Fix(s.from(0, i.H))}
	for range i.W * i.H {
		i.Pebble = append(i.Pebble, s.from(0, 1000))
		i.Polish = append(i.Polish, s.from(0, 1000))
	}
	return i
}

// even returns ice that is the same everywhere where a stone may be.
func (s *state) even() api.Ice {
	corner := api.Spot{X: -api.MaxPlace, Y: -api.MaxPlace}
	pebble, polish := []int{s.from(0, 1000)}, []int{s.from(0, 1000)}
	return api.Ice{Corner: corner, Side: api.MaxPlace, W: 3, H: 3, Pebble: slices.Repeat(pebble, 9), Polish: slices.Repeat(polish, 9)}
}

// middle returns a place around which there are bodies: often one on a line.
func (s *state) middle() api.Spot {
	const side = api.HalfWidth - api.StoneRadius
	switch s.below(6) {
	case 0:
		return api.Spot{X: side}
	case 1:
		return api.Spot{X: -side, Y: api.BackLine + api.StoneRadius}
	case 2:
		return api.Spot{Y: api.FarHog - api.HouseRadius}
	case 3:
		return api.Spot{Y: api.BackLine + api.StoneRadius}
	}
	return api.Spot{X: api.MM, Y: -3000 * api.MM}
}

// speed returns a speed: of about a stone's size, small, or nearly the greatest one.
func (s *state) speed() api.Spot {
	switch s.below(8) {
	case 0, 1:
		return none
	case 2:
		return s.around(3)
	case 3:
		m := s.around(api.MaxSpeed / 9)
		return api.Spot{X: api.MaxSpeed - max(m.X, -m.X), Y: api.Fix(1-2*s.below(2)) * (api.MaxSpeed - max(m.Y, -m.Y))}
	}
	return s.around(200 * api.MM)
}

// bodies returns some bodies near a place, of which many touch.
func (s *state) bodies(at api.Spot) []api.Body {
	var l []api.Body
	for k := range s.from(0, api.MaxStones) {
		b := api.Body{Team: k % 2, N: k / 2}
		near := s.around(s.from(1, 900) * api.MM)
		b.At = api.Spot{X: at.X + near.X, Y: at.Y + near.Y}
		if k > 0 && s.below(20) == 0 {
			b.At = l[s.below(k)].At
		}
		if b.Spin = s.from(-api.MaxSpin, api.MaxSpin); s.below(3) > 0 {
			b.Speed = s.speed()
		}
		if s.below(3) > 0 { // it comes to its place
			b.At = minus(b.At, b.Speed)
		}
		if s.below(7) == 0 {
			b = lost(b)
		}
		l = append(l, b)
	}
	for k := range l {
		other := s.below(k + 1)
		l[k], l[other] = l[other], l[k]
	}
	return l
}

// elastic returns an elasticity.
func (s *state) elastic() int {
	return []int{0, 1000, s.from(0, 1000), s.from(0, 1000)}[s.below(4)]
}

// brooms returns brooms for about the first ticks.
func (s *state) brooms(ticks int) []api.Broom {
	var out []api.Broom
	for range s.below(5) {
		to := s.from(0, ticks)
		out = append(out, api.Broom{From: s.from(0, to), To: to, Strength: s.from(0, 1000)})
	}
	return out
}

// mul returns a product of any size.
func mul(l ...int) *big.Int {
	out := big.NewInt(1)
	for _, n := range l {
		out.Mul(out, big.NewInt(int64(n)))
	}
	return out
}

// cut returns a b / den, rounded towards 0.
func cut(a, b, den int) int {
	n := mul(a, b)
	return int(n.Quo(n, mul(den)).Int64())
}

// square returns the square of a length.
func square(s api.Spot) *big.Int {
	return new(big.Int).Add(mul(int(s.X), int(s.X)), mul(int(s.Y), int(s.Y)))
}

// share returns n / (the root of whole), rounded towards 0 to a Fix.
func share(n api.Fix, whole *big.Int) int {
	q := mul(api.One, api.One, int(n), int(n))
	u := int(q.Sqrt(q.Quo(q, whole)).Int64())
	if n < 0 {
		return -u
	}
	return u
}

// minus returns a spot less another one.
func minus(a, b api.Spot) api.Spot {
	return api.Spot{X: a.X - b.X, Y: a.Y - b.Y}
}

// touch reports whether two bodies touch.
func touch(a, b api.Body) bool {
	way := square(minus(b.At, a.At))
	return !a.Out && !b.Out && way.Sign() > 0 && way.Cmp(mul(290*api.MM, 290*api.MM)) <= 0
}

// meet returns two bodies that touch after a contact, whether they met, and whether their speeds are valid.
func meet(a, b api.Body, k int) (api.Body, api.Body, bool, bool) {
	d, r := minus(b.At, a.At), minus(a.Speed, b.Speed)
	x, y := share(d.X, square(d)), share(d.Y, square(d))
	dot := new(big.Int).Add(mul(int(r.X), x), mul(int(r.Y), y))
	j := int(dot.Div(dot, mul(api.One)).Int64()) // Div of big numbers is Down, by divisors above 0
	if j <= 0 {
		return a, b, false, true
	}
	i := cut(j, 1000+k, 2000)
	p := api.Spot{X: api.Fix(cut(x, i, api.One)), Y: api.Fix(cut(y, i, api.One))}
	a.Speed = minus(a.Speed, p)
	b.Speed = minus(b.Speed, minus(none, p))
	return a, b, true, isSpeed(a.Speed) && isSpeed(b.Speed)
}

// isSpeed reports whether a speed is valid.
func isSpeed(s api.Spot) bool {
	return max(s.X, s.Y, -s.X, -s.Y) <= api.MaxSpeed
}

// gone reports whether a place is over a line.
func gone(at api.Spot) bool {
	return max(at.X, -at.X) >= 2230*api.MM || at.Y > 1974*api.MM || at.Y < -30173*api.MM
}

// game is the arguments of a shot, but for its ticks.
type game struct {
	i            api.Ice
	g            api.Grain
	l            []api.Body
	brooms       []api.Broom
	who, elastic int
}

// game returns one that is valid, around a place.
func (s *state) game(at api.Spot) game {
	a := game{i: s.ice(at), g: s.grain(), l: s.bodies(at), brooms: s.brooms(30), elastic: s.elastic()}
	a.who = s.from(-1, len(a.l)-1)
	return a
}

// tick returns a scene after a tick, the hits, and whether all went well.
func (a game) tick(l []api.Body, t int) ([]api.Body, []api.Hit, bool) {
	l = slices.Clone(l)
	for k, b := range l {
		if b.Out || b.Speed == none {
			continue
		}
		n := 0
		for _, broom := range a.brooms {
			if k == a.who && broom.From <= t && broom.To > t {
				n = max(n, broom.Strength)
			}
		}
		var e api.Errno
		if l[k].Moving, e = glide.Tick(a.i, a.g, b.Moving, n); e != api.OK {
			return nil, nil, false
		}
	}
	hits, ok := contacts(l, a.elastic, t)
	for k, b := range l {
		if !b.Out && gone(b.At) {
			l[k] = lost(b)
		}
	}
	return l, hits, ok
}

// contacts changes a scene by its rounds of contacts.
func contacts(l []api.Body, elastic, t int) (hits []api.Hit, ok bool) {
	for round, before := 0, -1; round < 8 && len(hits) > before; round++ {
		before = len(hits)
		for a := range l {
			for b := a + 1; b < len(l); b++ {
				if !touch(l[a], l[b]) {
					continue
				}
				met, ok := false, false
				if l[a], l[b], met, ok = meet(l[a], l[b], elastic); !ok {
					return nil, false
				}
				if met {
					hits = append(hits, api.Hit{Tick: t, A: a, B: b})
				}
			}
		}
	}
	return hits, true
}

// isStill reports whether nothing moves.
func isStill(l []api.Body) bool {
	for _, b := range l {
		if !b.Out && b.Speed != none {
			return false
		}
	}
	return true
}

// shot returns a scene at its end, how many ticks it had, its hits, and the error.
func (a game) shot(most int) ([]api.Body, int, []api.Hit, api.Errno) {
	l, all, t := slices.Clone(a.l), []api.Hit(nil), 0
	for ; t < most && !isStill(l); t++ {
		next, hits, ok := a.tick(l, t)
		if !ok {
			return nil, 0, nil, api.ErrRange
		}
		if l, all = next, append(all, hits...); len(all) > 4096 {
			return nil, 0, nil, api.ErrLong
		}
	}
	return l, t, all, api.OK
}

// wrongBodies are not valid, each for one reason.
func wrongBodies() []api.Body {
	var out []api.Body
	add := func(change func(b *api.Body)) {
		b := spun(body(1, 7, 100, 200, 300, 400), 5)
		change(&b)
		out = append(out, b)
	}
	for _, n := range append(wrongNumbers, -1, 2) {
		add(func(b *api.Body) { b.Team = n })
	}
	for _, n := range append(wrongNumbers, -1, 8) {
		add(func(b *api.Body) { b.N = n })
	}
	for _, n := range append(wrongNumbers, api.MaxPlace+1, -api.MaxPlace-1) {
		add(func(b *api.Body) { b.At.X = api.Fix(n) })
		add(func(b *api.Body) { b.At.Y = api.Fix(n) })
	}
	for _, n := range append(wrongNumbers, api.MaxSpeed+1, -api.MaxSpeed-1) {
		add(func(b *api.Body) { b.Speed.X = api.Fix(n) })
		add(func(b *api.Body) { b.Speed.Y = api.Fix(n) })
	}
	for _, n := range append(wrongNumbers, api.MaxSpin+1, -api.MaxSpin-1) {
		add(func(b *api.Body) { b.Spin = n })
	}
	for _, b := range slices.Clone(out) {
		b.Out = true
		out = append(out, b)
	}
	return out
}

// wrongScenes are not valid.
func wrongScenes() [][]api.Body {
	good := body(0, 0, 0, 0, 0, 5000)
	var out [][]api.Body
	for _, w := range wrongBodies() {
		out = append(out, []api.Body{w}, []api.Body{good, w}, []api.Body{w, good})
	}
	for _, w := range []api.Moving{{Spin: 1}, {Spin: -1}, {Speed: api.Spot{X: 1}}, {Speed: api.Spot{Y: -1}}} {
		far := api.Body{Team: 1, Moving: w, Out: true}
		out = append(out, []api.Body{far}, []api.Body{good, far})
	}
	far := lost(good)
	out = append(out, []api.Body{good, good}, []api.Body{good, far}, []api.Body{far, far}, []api.Body{good, on(1, 9, 0), on(0, 9, 0)})
	return append(out, append(full(), api.Body{Team: 1, N: 7}), append(full(), api.Body{Team: 2}))
}

// full returns a scene of 16 bodies, far from each other, of which the first one moves.
func full() []api.Body {
	var l []api.Body
	for k := range api.MaxStones {
		l = append(l, body(k/8, k%8, 0, api.Fix(k-12)*300*api.MM, 0, 0))
	}
	l[0].Speed.Y = 2500
	return l
}

// wrongBrooms are not valid, each for one reason.
func wrongBrooms() [][]api.Broom {
	out := [][]api.Broom{make([]api.Broom, api.MaxBrooms+1)}
	add := func(change func(b *api.Broom)) {
		b := api.Broom{From: 1, To: 3, Strength: 500}
		good := b
		change(&b)
		out = append(out, []api.Broom{b}, []api.Broom{good, b}, []api.Broom{b, good})
	}
	add(func(b *api.Broom) { b.From = -1 })
	add(func(b *api.Broom) { b.From = 4 })
	add(func(b *api.Broom) { b.From, b.To = 0, -1 })
	add(func(b *api.Broom) { b.From, b.To = -2, -1 })
	add(func(b *api.Broom) { b.To = api.MaxTicks + 1 })
	add(func(b *api.Broom) { b.From, b.To = api.MaxTicks+1, api.MaxTicks+1 })
	add(func(b *api.Broom) { b.Strength = -1 })
	add(func(b *api.Broom) { b.Strength = 1001 })
	for _, n := range wrongNumbers {
		add(func(b *api.Broom) { b.From = n })
		add(func(b *api.Broom) { b.To = n })
		add(func(b *api.Broom) { b.From, b.To = n, n })
		add(func(b *api.Broom) { b.Strength = n })
	}
	return out
}

// wrongIces are not valid: a few of the reasons, which the tests of layer 3 have all of.
func wrongIces() []api.Ice {
	var out []api.Ice
	add := func(change func(i *api.Ice)) {
		i, _ := bare()
		change(&i)
		out = append(out, i)
	}
	add(func(i *api.Ice) { *i = api.Ice{} })
	add(func(i *api.Ice) { i.Corner.X = math.MinInt64 })
	add(func(i *api.Ice) { i.Side = 0 })
	add(func(i *api.Ice) { i.W = 2 })
	add(func(i *api.Ice) { i.H = math.MaxInt })
	add(func(i *api.Ice) { i.Pebble[0] = 1001 })
	add(func(i *api.Ice) { i.Polish = nil })
	return out
}

// wrongGrains are not valid: a few of the reasons.
func wrongGrains() []api.Grain {
	var out []api.Grain
	add := func(change func(g *api.Grain)) {
		_, g := bare()
		change(&g)
		out = append(out, g)
	}
	add(func(g *api.Grain) { *g = api.Grain{} })
	add(func(g *api.Grain) { g.Keen = 1001 })
	add(func(g *api.Grain) { g.Flat = api.MaxSlow + 1 })
	add(func(g *api.Grain) { g.Bend = 1001 })
	add(func(g *api.Grain) { g.Wear = -1 })
	return out
}

// hold tests that a value is as it must be.
func hold[V comparable](t *testing.T, got V, e api.Errno, want V, what string, args ...any) {
	t.Helper()
	if got != want || e != api.OK {
		t.Errorf("%s of %v is %v, error %d; want %v", what, args, got, e, want)
	}
}

// refuse tests that a call has an error, and nothing beside it.
func refuse[V comparable](t *testing.T, got V, e, want api.Errno, what string, args ...any) {
	t.Helper()
	var none V
	if got != none || e != want {
		t.Errorf("%s of %v is %v, error %d; want the error %d", what, args, got, e, want)
	}
}
