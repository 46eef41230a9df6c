package press_test

import (
	"math/big"
	"math/rand"
	"testing"

	"deadwax/api"
	"deadwax/press"
)

func spot(x, y int64) api.Spot { return api.Spot{X: x, Y: y} }

func centre(t *testing.T, l [3]api.Spot) [3]int64 {
	t.Helper()
	x, y, d, e := press.Centre(l[0], l[1], l[2])
	if e != api.OK {
		t.Fatalf("Centre of %v: %d", l, e)
	}
	return [3]int64{x, y, d}
}

// P8.7: the chapter's examples.
func TestCentreExamples(t *testing.T) {
	l := [3]api.Spot{spot(3, 0), spot(0, 1), spot(0, -1)}
	if c := centre(t, l); c != [3]int64{16, 0, 12} {
		t.Errorf("Centre: %v", c)
	}
	for limit, want := range []bool{false, false, true, true} {
		if ok, e := press.Centred(l[0], l[1], l[2], int64(limit)); ok != want || e != api.OK {
			t.Errorf("Centred with %d: %v, %d", limit, ok, e)
		}
	}
}

func times(l ...int64) *big.Int {
	p := big.NewInt(1)
	for _, x := range l {
		p.Mul(p, big.NewInt(x))
	}
	return p
}

func plus(l ...*big.Int) *big.Int {
	s := new(big.Int)
	for _, x := range l {
		s.Add(s, x)
	}
	return s
}

// across returns the number of which d is twice the amount.
func across(l [3]api.Spot) *big.Int {
	a, b, c := l[0], l[1], l[2]
	return plus(times(b.X-a.X, c.Y-a.Y), times(-1, b.Y-a.Y, c.X-a.X))
}

// distance returns the square of the distance of a centre from a spot, times d and d.
func distance(c [3]int64, s api.Spot) *big.Int {
	x := plus(big.NewInt(c[0]), times(-1, s.X, c[2]))
	y := plus(big.NewInt(c[1]), times(-1, s.Y, c[2]))
	return plus(x.Mul(x, x), y.Mul(y, y))
}

// someSpots returns spots with coordinates up to an amount; sometimes two of them are neighbours.
func someSpots(r *rand.Rand, most int64) [3]api.Spot {
	var l [3]api.Spot
	for i := range l {
		l[i] = spot(upTo(r, -most, most), upTo(r, -most, most))
	}
	if r.Intn(3) == 0 {
		near := spot(l[0].X+r.Int63n(3)-1, l[0].Y+r.Int63n(3)-1)
		if max(near.X, -near.X, near.Y, -near.Y) <= most {
			l[1] = near
		}
	}
	return l
}

// P8.7, P8.14: the centre is as far from all three spots, and is written with the divisor that the chapter names, in whatever order the spots are.
func TestCentre(t *testing.T) {
	r := rand.New(rand.NewSource(87))
	seen := map[api.Errno]int{}
	for range 30000 {
		l := someSpots(r, []int64{2, 5, 1000, 1 << 18}[r.Intn(4)])
		x, y, d, e := press.Centre(l[0], l[1], l[2])
		seen[e]++
		for _, o := range [][3]int{{0, 2, 1}, {1, 0, 2}, {1, 2, 0}, {2, 0, 1}, {2, 1, 0}} {
			if ox, oy, od, oe := press.Centre(l[o[0]], l[o[1]], l[o[2]]); ox != x || oy != y || od != d || oe != e {
				t.Fatalf("Centre of %v: %d, %d, %d, %d, and in the order %v %d, %d, %d, %d", l, x, y, d, e, o, ox, oy, od, oe)
			}
		}
		twice := new(big.Int).Mul(times(2), across(l))
		twice.Abs(twice)
		if big.NewInt(d).Cmp(twice) != 0 || (d == 0) != (e == api.ErrZero) {
			t.Fatalf("Centre of %v: %d, %d, %d, %d", l, x, y, d, e)
		}
		if e != api.OK {
			if x != 0 || y != 0 {
				t.Fatalf("Centre of %v: %d, %d, %d, %d", l, x, y, d, e)
			}
			continue
		}
		c := [3]int64{x, y, d}
		if first := distance(c, l[0]); first.Cmp(distance(c, l[1])) != 0 || first.Cmp(distance(c, l[2])) != 0 {
			t.Fatalf("Centre of %v: %v is not as far from all", l, c)
		}
	}
	if seen[api.OK] < 1000 || seen[api.ErrZero] < 1000 {
		t.Errorf("seen: %v", seen)
	}
}

// P8.14: spots that are moved have a centre that is moved.
func TestMovedCentre(t *testing.T) {
	r := rand.New(rand.NewSource(814))
	for range 3000 {
		l := someSpots(r, 1000)
		if across(l).Sign() == 0 {
			continue
		}
		c := centre(t, l)
		by := spot(upTo(r, 1000-1<<18, 1<<18-1000), upTo(r, 1000-1<<18, 1<<18-1000))
		moved := l
		for i := range moved {
			moved[i] = spot(l[i].X+by.X, l[i].Y+by.Y)
		}
		if m := centre(t, moved); m != [3]int64{c[0] + by.X*c[2], c[1] + by.Y*c[2], c[2]} {
			t.Fatalf("Centre of %v: %v, and moved by %v: %v", l, c, by, m)
		}
	}
}

// P8.7: a centre is near the hole up to its distance, rounded up.
func TestCentred(t *testing.T) {
	r := rand.New(rand.NewSource(872))
	exact, near, far := 0, 0, 0
	for range 20000 {
		l := someSpots(r, []int64{2, 5, 1000, 1 << 18}[r.Intn(4)])
		if across(l).Sign() == 0 {
			continue
		}
		c := centre(t, l)
		square, d := distance(c, api.Spot{}), times(c[2], c[2])
		limits := []int64{0, api.MaxSpot, r.Int63n(api.MaxSpot)}
		if least := new(big.Int).Sqrt(new(big.Int).Div(square, d)); least.Cmp(big.NewInt(api.MaxSpot-1)) < 0 {
			near++
			limits = append(limits, max(0, least.Int64()-1), least.Int64(), least.Int64()+1)
		} else {
			far++
		}
		for _, limit := range limits {
			bound := new(big.Int).Mul(times(limit, limit), d)
			if square.Cmp(bound) == 0 {
				exact++
			}
			if ok, e := press.Centred(l[0], l[1], l[2], limit); ok != (square.Cmp(bound) <= 0) || e != api.OK {
				t.Fatalf("Centred of %v with %d: %v, %d", l, limit, ok, e)
			}
		}
	}
	if exact < 100 || near < 1000 || far < 100 {
		t.Errorf("%d limits were exact, %d centres near, %d far", exact, near, far)
	}
}

// P8.7: a centre with a distance of 5 units, and great circles.
func TestCentredExactly(t *testing.T) {
	for _, x := range []struct {
		l       [3]api.Spot
		limit   int64
		centred bool
	}{
		{[3]api.Spot{spot(16, 4), spot(-10, 4), spot(3, 17)}, 5, true}, // around (3, 4), 13 units away
		{[3]api.Spot{spot(16, 4), spot(-10, 4), spot(3, 17)}, 4, false},
		{[3]api.Spot{spot(13, 0), spot(0, 13), spot(-13, 0)}, 0, true},
		{[3]api.Spot{spot(13, 0), spot(0, 13), spot(-12, 0)}, 0, false},
		{[3]api.Spot{spot(1<<18, 1<<18), spot(1<<18, -1<<18), spot(-1<<18, 1<<18)}, 0, true},
		{[3]api.Spot{spot(-1<<18, -1<<18), spot(1<<18, 1<<18), spot(1<<18-1, 1<<18)}, api.MaxSpot, false},
		{[3]api.Spot{spot(-1<<18, -1<<18), spot(1<<18, 1<<18), spot(0, 1)}, api.MaxSpot, false},
	} {
		if ok, e := press.Centred(x.l[0], x.l[1], x.l[2], x.limit); ok != x.centred || e != api.OK {
			t.Errorf("Centred of %v with %d: %v, %d", x.l, x.limit, ok, e)
		}
	}
}

// P8.7: the errors come in their order.
func TestCentreErrors(t *testing.T) {
	wrong := func(l [3]api.Spot, want api.Errno) {
		t.Helper()
		if x, y, d, e := press.Centre(l[0], l[1], l[2]); x != 0 || y != 0 || d != 0 || e != want {
			t.Errorf("Centre of %v: %d, %d, %d, %d", l, x, y, d, e)
		}
		for _, limit := range []int64{0, 5, -1, api.MaxSpot + 1} {
			if ok, e := press.Centred(l[0], l[1], l[2], limit); ok || e != want {
				t.Errorf("Centred of %v with %d: %v, %d", l, limit, ok, e)
			}
		}
	}
	for _, n := range beyond(-api.MaxSpot, api.MaxSpot) {
		for i := range 3 {
			for _, s := range []api.Spot{spot(n, 0), spot(0, n), spot(n, n)} {
				var l [3]api.Spot // the others are the same
				l[i] = s
				wrong(l, api.ErrRange)
				l = [3]api.Spot{spot(3, 0), spot(0, 1), spot(0, -1)}
				l[i] = s
				wrong(l, api.ErrRange)
			}
		}
	}
	for _, l := range [][3]api.Spot{
		{},
		{spot(1, 2), spot(1, 2), spot(5, 6)},
		{spot(1, 2), spot(5, 6), spot(1, 2)},
		{spot(5, 6), spot(1, 2), spot(1, 2)},
		{spot(0, 0), spot(2, 3), spot(-4, -6)},
		{spot(-1<<18, 1<<18), spot(0, 0), spot(1<<18, -1<<18)},
		{spot(7, -1<<18), spot(7, 1<<18), spot(7, 0)},
	} {
		wrong(l, api.ErrZero)
	}
	for _, limit := range beyond(0, api.MaxSpot) {
		if ok, e := press.Centred(spot(13, 0), spot(0, 13), spot(-13, 0), limit); ok || e != api.ErrArg {
			t.Errorf("Centred with %d: %v, %d", limit, ok, e)
		}
	}
}
