package glide_test

import (
	"slices"
	"testing"

	"besom/api"
	"besom/glide"
)

// P4.1
func TestCheck(t *testing.T) {
	const place, speed = api.MaxPlace, api.MaxSpeed
	for _, m := range []api.Moving{
		{},
		up(3500, 7),
		{At: api.Spot{X: place, Y: place}, Speed: api.Spot{X: speed, Y: speed}, Spin: api.MaxSpin},
		{At: api.Spot{X: -place, Y: -place}, Speed: api.Spot{X: -speed, Y: -speed}, Spin: -api.MaxSpin},
	} {
		if e := glide.Check(m); e != api.OK {
			t.Errorf("%v has the error %d", m, e)
		}
	}
	for _, m := range wrongStones() {
		if e := glide.Check(m); e != api.ErrArg {
			t.Errorf("%v has the error %d", m, e)
		}
	}
}

// P4.1
func TestCheckBrooms(t *testing.T) {
	for _, l := range [][]api.Broom{
		nil,
		{},
		{{}},
		{{From: 3, To: 3, Strength: 1000}},
		{{To: api.MaxTicks}, {From: api.MaxTicks, To: api.MaxTicks, Strength: 1000}, {From: 1, To: 2}},
		slices.Repeat([]api.Broom{{From: 1, To: 9, Strength: 5}}, api.MaxBrooms),
	} {
		if e := glide.CheckBrooms(l); e != api.OK {
			t.Errorf("%v has the error %d", l, e)
		}
	}
	for _, l := range wrongBrooms() {
		if e := glide.CheckBrooms(l); e != api.ErrArg {
			t.Errorf("%v has the error %d", l, e)
		}
	}
}

// P4.1
func TestStrength(t *testing.T) {
	two := []api.Broom{{From: 1, To: 3, Strength: 5}, {From: 2, To: 5, Strength: 4}, {From: 5, To: 5, Strength: 9}, {From: 6, To: api.MaxTicks, Strength: 1}}
	for tick, want := range []int{0, 5, 5, 4, 4, 0, 1, 1} {
		got, e := glide.Strength(two, tick)
		hold(t, got, e, want, "Strength", two, tick)
	}
	for tick, want := range map[int]int{0: 0, api.MaxTicks - 1: 1, api.MaxTicks: 0} {
		got, e := glide.Strength(two, tick)
		hold(t, got, e, want, "Strength", two, tick)
		got, e = glide.Strength(nil, tick)
		hold(t, got, e, 0, "Strength", tick)
	}
	s := state(41)
	for range 2000 {
		l := s.brooms(20)
		for tick := range 22 {
			got, e := glide.Strength(l, tick)
			hold(t, got, e, strongest(l, tick), "Strength", l, tick)
		}
	}
	for _, l := range wrongBrooms() {
		got, e := glide.Strength(l, 2)
		refuse(t, got, e, api.ErrArg, "Strength", l)
	}
	for _, tick := range append(wrongNumbers, -1, api.MaxTicks+1) {
		got, e := glide.Strength(two, tick)
		refuse(t, got, e, api.ErrArg, "Strength", tick)
	}
}
