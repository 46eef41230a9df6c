package play_test

import (
	"math"
	"math/rand"
	"slices"
	"testing"

	"deadwax/api"
	"deadwax/play"
)

// rounded reports whether x is the radius minus the root of the square, rounded. It compares squares, in which nothing is rounded.
func rounded(x, radius, square int64, up bool) bool {
	// The root is at most n, or at least n, just if the square is at most, or at least, that of n.
	atMost := func(n int64) bool { return n >= 0 && square <= n*n }
	atLeast := func(n int64) bool { return n <= 0 || square >= n*n }
	if up {
		return atLeast(radius-x) && !atLeast(radius-x+1)
	}
	return atMost(radius-x) && !atMost(radius-x-1)
}

// P6.1: the chapter's examples, and where the rounding begins.
func TestRoundExamples(t *testing.T) {
	for _, c := range []struct {
		radius, arc int64
		up          bool
		want        []int64
	}{
		{10, 4, false, []int64{0, 0, 4}},
		{10, 4, true, []int64{0, 1, 4}},
		{0, 1, false, []int64{0}},
		{0, 1, true, []int64{0}},
		{0, api.MaxEdge, true, []int64{0}},
		{1, 1, false, []int64{0, 1}},
		{1, 1, true, []int64{0, 1}},
		{1, 2, true, []int64{0}},
		{5, 3, false, []int64{0, 1}},
		{5, 3, true, []int64{0, 1}},
		{5, 1, false, []int64{0, 0, 0, 1, 2, 5}},
		{5, 1, true, []int64{0, 1, 1, 1, 2, 5}},
		{api.MaxStylus, api.MaxStylus, false, []int64{0, api.MaxStylus}},
		{api.MaxStylus, api.MaxStylus + 1, true, []int64{0}},
		{api.MaxStylus, api.MaxEdge, true, []int64{0}},
	} {
		x, e := play.Round(c.radius, c.arc, c.up)
		if e != api.OK || !slices.Equal(x.Shape, c.want) {
			t.Errorf("Round of %d for %d, up %v: %v, %d, not %v", c.radius, c.arc, c.up, x, e, c.want)
		}
	}
}

// P6.1, P6.11: each element of round tips of all radii.
func TestRoundByDefinition(t *testing.T) {
	for _, arc := range []int64{1, 2, 3, 4, 5, 7, 10, 15, 16, 17, 18, 31, 64, 100, 341, 512, 1000, 1023, 1024, 1025, api.MaxEdge} {
		for radius := int64(0); radius <= api.MaxStylus && radius/arc < api.MaxReach; radius++ {
			down, up := round(t, radius, arc, false), round(t, radius, arc, true)
			if n := int(radius/arc) + 1; len(down.Shape) != n || len(up.Shape) != n {
				t.Fatalf("%d for %d: %v and %v have not %d elements", radius, arc, down, up, n)
			}
			for k := range down.Shape {
				square := radius*radius - int64(k)*arc*int64(k)*arc
				if !rounded(down.Shape[k], radius, square, false) || !rounded(up.Shape[k], radius, square, true) {
					t.Errorf("%d for %d: %v and %v at %d", radius, arc, down, up, k)
				}
				if d := up.Shape[k] - down.Shape[k]; d < 0 || d > 1 {
					t.Errorf("%d for %d: %v and %v differ by %d at %d", radius, arc, down, up, d, k)
				}
			}
		}
	}
}

// P6.11: a round tip with a greater radius is blunter; so is one that is rounded down, not up.
func TestRoundTipsAreBlunter(t *testing.T) {
	for _, arc := range []int64{1, 2, 3, 5, 16, 17, 100, 1000, 1025} {
		for radius := int64(1); radius <= api.MaxStylus && radius/arc < api.MaxReach; radius++ {
			for _, up := range []bool{false, true} {
				if !blunter(round(t, radius, arc, up), round(t, radius-1, arc, up)) {
					t.Errorf("%d for %d, up %v, is not blunter than %d", radius, arc, up, radius-1)
				}
			}
			if !blunter(round(t, radius, arc, false), round(t, radius, arc, true)) {
				t.Errorf("%d for %d is not blunter if it is rounded down", radius, arc)
			}
		}
	}
}

// P6.1, P6.3: the errors of a radius and an arc come in their order.
func TestErrorsOfRound(t *testing.T) {
	check := func(name string, radius, arc int64, want api.Errno) {
		t.Helper()
		for _, up := range []bool{false, true} {
			if x, e := play.Round(radius, arc, up); len(x.Shape) != 0 || e != want {
				t.Errorf("%s: Round of %d for %d: %v, %d, not %d", name, radius, arc, x, e, want)
			}
		}
		for _, l := range [][]api.Point{nil, points()} {
			if n, e := play.Greatest(l, arc, radius); n != 0 || e != want {
				t.Errorf("%s: Greatest up to %d for %d: %d, %d, not %d", name, radius, arc, n, e, want)
			}
		}
	}
	for _, radius := range beyond(0, api.MaxStylus) {
		check("the radius", radius, 1, api.ErrRange)
		check("the radius", radius, api.MaxEdge, api.ErrRange)
	}
	for _, arc := range beyond(1, api.MaxEdge) {
		check("the arc", 0, arc, api.ErrRange)
		check("the arc", api.MaxStylus, arc, api.ErrRange)
	}
	check("both", math.MaxInt64, 0, api.ErrRange)
	check("65 elements", api.MaxReach, 1, api.ErrMany)
	check("65 elements", 10*api.MaxReach, 10, api.ErrMany)
	check("65 elements", api.MaxStylus, 16, api.ErrMany)
	check("1,025 elements", api.MaxStylus, 1, api.ErrMany)
	for radius, arc := range map[int64]int64{api.MaxReach - 1: 1, 10*api.MaxReach - 1: 10, api.MaxStylus - 1: 16, api.MaxStylus: 17} {
		if x := round(t, radius, arc, false); arc != 17 && len(x.Shape) != api.MaxReach {
			t.Errorf("Round of %d for %d: %v", radius, arc, x)
		}
	}
}

// checkGreatest holds what Greatest returns against a radius.
func checkGreatest(t *testing.T, name string, l []api.Point, arc, most, want int64) {
	t.Helper()
	if n, e := play.Greatest(l, arc, most); n != want || e != api.OK {
		t.Errorf("%s: %d, %d, not %d", name, n, e, want)
	}
}

// P6.3: the chapter's example, and where it ends.
func TestGreatest(t *testing.T) {
	checkGreatest(t, "the example", points(), 4, 10, 3)
	checkGreatest(t, "the example, up to the radius", points(), 4, 3, 3)
	checkGreatest(t, "the example, up to a lesser one", points(), 4, 2, 2)
	checkGreatest(t, "the example, up to none", points(), 4, 0, 0)
	checkGreatest(t, "no points", nil, 4, 200, 200)
	checkGreatest(t, "one point", points()[:1], 4, 200, 200)
	checkGreatest(t, "points without a width", groove(5, -5, 5, -5), 4, 200, 200)
	checkGreatest(t, "a great arc", points(), api.MaxEdge, api.MaxStylus, api.MaxStylus)
	// with 9 the tip is ideal; with 10 it has the shape 0 10, with 11 the shape 0 6
	checkGreatest(t, "just the first bend", groove(0, 10, 0, 0), 10, 30, 10)
	checkGreatest(t, "too great for it", groove(0, 11, 0, 0), 10, 30, 9)
	checkGreatest(t, "the inner edge", groove(-10, 0, 0, 0), 10, 30, 10)
	checkGreatest(t, "too great at the inner edge", groove(0, 0, -11, 0), 10, 30, 9)
}

// P6.3, P6.11: all round tips up to the greatest radius read the groove exactly, and no greater one.
func TestGreatestByDefinition(t *testing.T) {
	r := rand.New(rand.NewSource(63))
	found := map[string]int{}
	for range 3000 {
		arc, most := 1+r.Int63n(12), r.Int63n(60)
		l := someGroove(r, r.Intn(8))
		if r.Intn(2) == 0 {
			l = sweep(t, round(t, r.Int63n(60), arc, false), l)
		}
		n, e := play.Greatest(l, arc, most)
		if e != api.OK || n < 0 || n > most {
			t.Fatalf("Greatest of %v for %d up to %d: %d, %d", l, arc, most, n, e)
		}
		for radius := int64(0); radius <= most; radius++ {
			_, _, missed := wantedMiss(round(t, radius, arc, false), l)
			if (missed == api.ErrNone) != (radius <= n) {
				t.Fatalf("Greatest of %v for %d up to %d: %d, but with %d: %d", l, arc, most, n, radius, missed)
			}
		}
		switch {
		case n == most:
			found["all"]++
		case n >= arc:
			found["some"]++
		default:
			found["ideal ones"]++
		}
	}
	if found["all"] < 300 || found["some"] < 300 || found["ideal ones"] < 300 {
		t.Errorf("not enough of each kind: %v", found)
	}
}
