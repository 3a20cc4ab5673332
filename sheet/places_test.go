package sheet_test

import (
	"testing"

	"besom/api"
	"besom/sheet"
)

// P2.1
func TestCheckSpot(t *testing.T) {
	for _, p := range spots() {
		if !sheet.CheckSpot(p) {
			t.Errorf("CheckSpot(%v) is false", p)
		}
	}
	for _, p := range wrongSpots {
		if sheet.CheckSpot(p) {
			t.Errorf("CheckSpot(%v) is true", p)
		}
	}
}

// P2.1: the numbers of the zones.
func TestZoneNumbers(t *testing.T) {
	for _, c := range []struct {
		p    api.Spot
		want int
	}{
		{mm(2230, 0), 0}, {mm(0, -3000), 1}, {mm(0, 0), 2}, {mm(1500, 1900), 3},
		{mm(0, 1974), 2}, {api.Spot{Y: 1974*api.MM + 1}, 0}, {mm(0, -1974), 2}, {api.Spot{Y: -1974*api.MM - 1}, 1},
		{mm(2229, 0), 3}, {mm(-2229, 0), 3}, {mm(-2230, 0), 0}, {mm(0, -6256), 0}, {api.Spot{Y: -6256*api.MM + 1}, 1},
		{mm(2000, -145), 3}, {api.Spot{X: 2000 * api.MM, Y: -145*api.MM - 1}, 1},
		{api.Spot{X: 1974 * api.MM, Y: -1}, 3}, {api.Spot{X: 1974 * api.MM}, 2}, {api.Spot{X: -1974*api.MM - 1}, 3},
		{mm(1126, 1621), 2}, {mm(1127, 1621), 3}, // 1974 is no side of a whole triangle
		{api.Spot{X: api.MaxPlace, Y: api.MaxPlace}, 0}, {mm(0, -28344), 0},
	} {
		if n, e := sheet.Zone(c.p); n != c.want || e != api.OK {
			t.Errorf("Zone(%v) is %d, error %d; want %d", c.p, n, e, c.want)
		}
	}
}

// P2.1
func TestZone(t *testing.T) {
	for _, p := range spots() {
		if n, e := sheet.Zone(p); n != zone(p) || e != api.OK {
			t.Errorf("Zone(%v) is %d, error %d; want %d", p, n, e, zone(p))
		}
	}
	for _, p := range wrongSpots {
		if n, e := sheet.Zone(p); n != 0 || e != api.ErrArg {
			t.Errorf("Zone(%v) is %d, error %d", p, n, e)
		}
	}
}

// P2.1: places that are just in the circle of the house, and just out of it.
func TestZoneOnTheCircle(t *testing.T) {
	const r = 1974 * api.MM
	for _, x := range []api.Fix{1, 2, 1000, 65536, 145 * api.MM, 1000 * api.MM, 1395 * api.MM, 1900 * api.MM, r - 1, r} {
		y := api.Fix(0)
		for step := api.Fix(1 << 30); step > 0; step /= 2 {
			if reach(api.Spot{X: x, Y: y + step}, api.Spot{}, r) <= 0 {
				y += step
			}
		}
		for _, p := range []api.Spot{{X: x, Y: -y}, {X: -x, Y: -y}, {X: x, Y: y}, {X: -x, Y: y}} {
			if n, e := sheet.Zone(p); n != api.House || e != api.OK {
				t.Errorf("Zone(%v) is %d, error %d", p, n, e)
			}
		}
		for _, p := range []api.Spot{{X: x, Y: -y - 1}, {X: -x, Y: y + 1}} {
			if n, e := sheet.Zone(p); n == api.House || n != zone(p) || e != api.OK {
				t.Errorf("Zone(%v) is %d, error %d", p, n, e)
			}
		}
	}
}

// P2.1
func TestOnCentre(t *testing.T) {
	for _, p := range spots() {
		want := plays(p) && p.X >= -145*api.MM && p.X <= 145*api.MM
		if is, e := sheet.OnCentre(p); is != want || e != api.OK {
			t.Errorf("OnCentre(%v) is %v, error %d", p, is, e)
		}
	}
	for _, p := range wrongSpots {
		if is, e := sheet.OnCentre(p); is || e != api.ErrArg {
			t.Errorf("OnCentre(%v) is %v, error %d", p, is, e)
		}
	}
}

// P2.2
func TestContact(t *testing.T) {
	for _, c := range []struct {
		b    api.Spot
		want int
	}{
		{mm(0, 0), -1}, {mm(290, 0), 0}, {api.Spot{X: 290*api.MM - 1}, -1}, {api.Spot{Y: -290*api.MM + 1}, -1}, {api.Spot{Y: 290*api.MM + 1}, 1},
		{mm(174, -232), 0}, {mm(-232, 174), 0}, {mm(200, -210), 0}, {mm(-210, -200), 0}, {mm(174, 233), 1}, {mm(206, 205), 1}, {mm(205, 205), -1},
		{api.Spot{X: 290 * api.MM, Y: 1}, 1}, {api.Spot{X: 174*api.MM + 1, Y: 232*api.MM - 1}, -1},
		{api.Spot{X: 1 << 32}, 1}, {api.Spot{X: 1 << 32, Y: 1 << 32}, 1}, {api.Spot{X: api.MaxPlace}, 1},
	} {
		if n, e := sheet.Contact(api.Spot{}, c.b); n != c.want || e != api.OK {
			t.Errorf("Contact with %v is %d, error %d; want %d", c.b, n, e, c.want)
		}
	}
	l := spots()
	for i, a := range l {
		for k := i % 97; k < len(l); k += 97 {
			want := reach(a, l[k], 290*api.MM)
			if n, e := sheet.Contact(a, l[k]); n != want || e != api.OK {
				t.Errorf("Contact(%v, %v) is %d, error %d; want %d", a, l[k], n, e, want)
			}
		}
	}
	for _, p := range wrongSpots {
		for _, c := range [][2]api.Spot{{p, {}}, {{}, p}, {p, p}} {
			if n, e := sheet.Contact(c[0], c[1]); n != 0 || e != api.ErrArg {
				t.Errorf("Contact(%v, %v) is %d, error %d", c[0], c[1], n, e)
			}
		}
	}
}
