package play_test

import (
	"math"
	"math/rand"
	"testing"

	"deadwax/api"
	"deadwax/lathe"
	"deadwax/play"
)

// checkDrop holds where a tip lands against a sample, below 0 for none.
func checkDrop(t *testing.T, name string, l []api.Point, radii []int64, per, angle, x int64, want int) {
	t.Helper()
	wanted := api.OK
	if want < 0 {
		want, wanted = 0, api.ErrNone
	}
	if i, e := play.Drop(l, radii, per, angle, x); i != want || e != wanted {
		t.Errorf("%s: Drop at %d and %d, with %d: %d, %d, not %d, %d", name, angle, x, per, i, e, want, wanted)
	}
}

// P6.7: the chapter's examples, and where grooves end.
func TestDrop(t *testing.T) {
	radii := []int64{1000, 990, 980}
	checkDrop(t, "the example", points(), radii, 2, 0, 950, 0)
	checkDrop(t, "the example", points(), radii, 2, 0, 890, 2)
	checkDrop(t, "the example", points(), radii, 2, 0, 840, -1)
	checkDrop(t, "at the inner edge", points(), radii, 2, 0, 900, 0)
	checkDrop(t, "beyond the inner edge", points(), radii, 2, 0, 899, 2)
	checkDrop(t, "at the outer edge", points(), radii, 2, 0, 1100, 0)
	checkDrop(t, "beyond the outer edge", points(), radii, 2, 0, 1101, -1)
	checkDrop(t, "at the last inner edge", points(), radii, 2, 0, 885, 2)
	checkDrop(t, "beyond the last inner edge", points(), radii, 2, 0, 884, -1)
	checkDrop(t, "at the other angle", points(), radii, 2, 1, 950, 1)
	checkDrop(t, "at its inner edge", points(), radii, 2, 1, 890, 1)
	checkDrop(t, "beyond it", points(), radii, 2, 1, 889, -1)
	checkDrop(t, "just one angle", points(), radii, 1, 0, 889, 2)
	checkDrop(t, "as many angles as points", points(), radii, 3, 2, 950, 2)
	checkDrop(t, "an angle without points", points(), radii, 4, 3, 950, -1)
	checkDrop(t, "the last angle", points(), radii, api.MaxPer, api.MaxPer-1, 950, -1)
	checkDrop(t, "no points", nil, nil, 1, 0, 0, -1)
	checkDrop(t, "a width of 0", groove(5, 5), []int64{100}, 1, 0, 105, 0)
	checkDrop(t, "a width below 0", groove(5, -5), []int64{100}, 1, 0, 100, -1)
	for _, x := range []int64{math.MinInt64, math.MaxInt64} {
		checkDrop(t, "far away", points(), radii, 1, 0, x, -1)
	}
	far := groove(-api.MaxEdge, api.MaxEdge)
	checkDrop(t, "the farthest out", far, []int64{api.MaxPlace}, 1, 0, api.MaxPlace+api.MaxEdge, 0)
	checkDrop(t, "the farthest in", far, []int64{-api.MaxPlace}, 1, 0, -api.MaxPlace-api.MaxEdge, 0)
}

// P6.7: the errors come in their order.
func TestErrorsOfDrop(t *testing.T) {
	check := func(name string, radii []int64, per, angle int64, want api.Errno) {
		t.Helper()
		if i, e := play.Drop(points(), radii, per, angle, 950); i != 0 || e != want {
			t.Errorf("%s: Drop with %d at %d: %d, %d, not %d", name, per, angle, i, e, want)
		}
	}
	right := []int64{1000, 990, 980}
	check("too few radii", right[:2], 0, 0, api.ErrEqual)
	check("no radii", nil, 0, 0, api.ErrEqual)
	check("too many radii", []int64{api.MaxPlace + 1, 0, 0, 0}, 0, 0, api.ErrEqual)
	for _, x := range beyond(-api.MaxPlace, api.MaxPlace) {
		check("the first radius", []int64{x, 990, 980}, 0, 0, api.ErrArg)
		check("the last radius", []int64{1000, 990, x}, 2, 2, api.ErrArg)
	}
	for _, per := range beyond(1, api.MaxPer) {
		check("the turn", right, per, 0, api.ErrRange)
	}
	for _, per := range []int64{1, 2, 3, 5, api.MaxPer} {
		for _, angle := range beyond(0, per-1) {
			check("the angle", right, per, angle, api.ErrRange)
		}
	}
	if i, e := play.Drop(nil, nil, 2, 2, 0); i != 0 || e != api.ErrRange {
		t.Errorf("no points, and no such angle: %d, %d", i, e)
	}
	if i, e := play.Drop(nil, []int64{0}, 2, 2, 0); i != 0 || e != api.ErrEqual {
		t.Errorf("no points, and a radius: %d, %d", i, e)
	}
}

// wantedDrop follows the definition of the chapter.
func wantedDrop(l []api.Point, radii []int64, per, angle, x int64) int {
	for i, p := range l {
		if int64(i)%per == angle && x >= radii[i]+p.In && x <= radii[i]+p.Out {
			return i
		}
	}
	return -1
}

// P6.7: in cuts of all kinds, also those that keep no rules.
func TestDropByDefinition(t *testing.T) {
	r := rand.New(rand.NewSource(67))
	landed := 0
	for range 20000 {
		l := make([]api.Point, r.Intn(9))
		radii := make([]int64, len(l))
		for i := range l {
			l[i] = api.Point{In: r.Int63n(8) - 5, Out: r.Int63n(8) - 2}
			radii[i] = r.Int63n(30)
		}
		per := 1 + r.Int63n(5)
		angle, x := r.Int63n(per), r.Int63n(40)-5
		want := wantedDrop(l, radii, per, angle, x)
		checkDrop(t, "any cut", l, radii, per, angle, x, want)
		if want > 0 {
			landed++
		}
	}
	if landed < 1000 {
		t.Errorf("only %d tips land behind the first sample", landed)
	}
}

// P6.15: in a cut with a land of at least 1 a tip that is dropped between the edges of a sample lands just there, and in the land nowhere.
func TestLanding(t *testing.T) {
	r := rand.New(rand.NewSource(615))
	cuts := 0
	for range 500 {
		b := api.Blank{Per: 1 + r.Int63n(5), Rim: 2000, Land: 1 + r.Int63n(3), Slow: r.Int63n(3), Fast: 300}
		l := someGroove(r, 1+r.Intn(12))
		radii, e := lathe.Outermost(b, l)
		if e != api.OK {
			continue
		}
		cuts++
		for i, p := range l {
			if t.Failed() {
				return
			}
			angle := int64(i) % b.Per
			for x := radii[i] + p.In; x <= radii[i]+p.Out; x++ {
				checkDrop(t, "in the groove", l, radii, b.Per, angle, x, i)
			}
			if b.Land == 1 { // then the next groove may begin with the next unit
				continue
			}
			checkDrop(t, "in the land behind it", l, radii, b.Per, angle, radii[i]+p.In-1, -1)
			checkDrop(t, "in the land before it", l, radii, b.Per, angle, radii[i]+p.Out+1, -1)
		}
	}
	if cuts < 300 {
		t.Errorf("only %d grooves fit", cuts)
	}
}
