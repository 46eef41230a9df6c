package groove_test

import (
	"math"
	"math/rand"
	"slices"
	"testing"

	"deadwax/api"
	"deadwax/groove"
)

// nowhere is the least radius of a groove that has a fault at each radius.
const nowhere = api.MaxRadius + 1

// leastOf returns the least radius of a groove, nowhere if there is none.
func leastOf(t *testing.T, c api.Cutter, l []api.Point, per int64) int64 {
	t.Helper()
	r, e := groove.Least(c, l, per)
	return orNowhere(t, r, e)
}

func needsOf(t *testing.T, c api.Cutter, l []api.Point, per int64, i int) int64 {
	t.Helper()
	r, e := groove.Needs(c, l, per, i)
	return orNowhere(t, r, e)
}

func orNowhere(t *testing.T, r int64, e api.Errno) int64 {
	t.Helper()
	if e == api.ErrLimit && r == 0 {
		return nowhere
	}
	if e != api.OK || r < 0 || r > api.MaxRadius {
		t.Fatalf("a least radius: %d, %d", r, e)
	}
	return r
}

// P3.6: the chapter's examples.
func TestLeastExamples(t *testing.T) {
	step := cut(t, cutter(), api.Sample{}, api.Sample{L: 400})
	if r, e := groove.Least(cutter(), step, 1000); r != 127324 || e != api.OK {
		t.Errorf("a step: %d, %d", r, e)
	}
	peak := cut(t, cutter(), api.Sample{}, api.Sample{L: 100, R: 100}, api.Sample{})
	if r, e := groove.Least(cutter(), peak, 1000); r != 31831 || e != api.OK {
		t.Errorf("a peak: %d, %d", r, e)
	}
}

// P3.6
func TestNeedsRange(t *testing.T) {
	l := []api.Point{{Out: 300}, {Out: 310}, {Out: 100}}
	for _, i := range []int{-1, 3, 4, api.MaxLong, math.MinInt, math.MaxInt} {
		if r, e := groove.Needs(cutter(), l, 1000, i); r != 0 || e != api.ErrRange {
			t.Errorf("the index %d of three: %d, %d", i, r, e)
		}
	}
	for _, none := range [][]api.Point{nil, {}} {
		if r, e := groove.Needs(cutter(), none, 1000, 0); r != 0 || e != api.ErrRange {
			t.Errorf("the index 0 of none: %d, %d", r, e)
		}
	}
	if r, e := groove.Needs(cutter(), l, 1000, 2); r != 0 || e != api.ErrLimit {
		t.Errorf("a point that is too thin: %d, %d", r, e)
	}
	if r, e := groove.Needs(cutter(), l, 1000, 1); r != 23607 || e != api.OK {
		t.Errorf("the point before one that is too thin: %d, %d", r, e)
	}
}

// P3.6: what each index needs, at all radii that are asked for.
func TestNeedsOfEachRule(t *testing.T) {
	c := patient()
	c.Slope, c.Stylus = 500, 2
	l := []api.Point{{Out: 100}, {Out: 106}, {Out: 112}, {Out: 110}, {Out: 110}}
	for i, want := range []int64{0, 113 * 12, 113 * 12, 113 * 4, 0} {
		if r := needsOf(t, c, l, 710, i); r != want {
			t.Errorf("the index %d: %d, not %d", i, r, want)
		}
	}
	for i, want := range []int64{0, 0, 113 * 4, 113 * 2, 0} {
		c.Slope = api.MaxSlope
		if r := needsOf(t, c, l, 710, i); r != max(want, []int64{0, 68, 68, 23, 0}[i]) {
			t.Errorf("the index %d with a great slope: %d", i, r)
		}
	}
	if r := leastOf(t, c, l, 710); r != 113*4 {
		t.Errorf("the whole with a great slope: %d", r)
	}
}

// P3.6
func TestLeastAtTheLimits(t *testing.T) {
	c := patient()
	c.Thin, c.Wide = 10, 20
	for name, x := range map[string]struct {
		c    api.Cutter
		l    []api.Point
		per  int64
		want int64
	}{
		"no points":                {cutter(), nil, 1000, 0},
		"no points, but not nil":   {cutter(), []api.Point{}, 1000, 0},
		"one point":                {c, []api.Point{{Out: 10}}, api.MaxPer, 0},
		"too thin":                 {c, []api.Point{{Out: 10}, {Out: 9}}, 1, nowhere},
		"too wide":                 {c, []api.Point{{Out: 21}, {Out: 20}}, 1, nowhere},
		"no slope allowed":         {api.Cutter{Half: 1, Wide: 5, Jerk: 9}, []api.Point{{Out: 1}, {Out: 2}}, 1, nowhere},
		"no jerk allowed":          {api.Cutter{Half: 1, Wide: 5, Slope: 9}, []api.Point{{Out: 1}, {Out: 2}, {Out: 1}}, 1, nowhere},
		"a slope near the rim":     {api.Cutter{Half: 1, Wide: api.MaxWide, Slope: 1000}, []api.Point{{}, {Out: 37117}}, 710, 113 * 37117},
		"a slope beyond the rim":   {api.Cutter{Half: 1, Wide: api.MaxWide, Slope: 1000}, []api.Point{{}, {Out: 37118}}, 710, nowhere},
		"a slope at the rim":       {api.Cutter{Half: 1, Wide: 9, Slope: 17, Jerk: 9}, []api.Point{{}, {Out: 9}}, 49779, api.MaxRadius},
		"a unit beyond the rim":    {api.Cutter{Half: 1, Wide: 99, Slope: 32, Jerk: 9}, []api.Point{{}, {Out: 15}}, 56221, nowhere},
		"a turn near the rim":      {api.Cutter{Half: 1, Wide: 4, Slope: 1, Jerk: 9}, []api.Point{{}, {Out: 1}}, 26353, 4194210},
		"a turn beyond the rim":    {api.Cutter{Half: 1, Wide: 4, Slope: 1, Jerk: 9}, []api.Point{{}, {Out: 1}}, 26354, nowhere},
		"a bend near the rim":      {api.Cutter{Half: 1, Wide: 999, Slope: api.MaxSlope, Jerk: 999, Stylus: 1000}, []api.Point{{}, {Out: 80}, {}}, api.MaxPer, 4172151},
		"a bend beyond the rim":    {api.Cutter{Half: 1, Wide: 999, Slope: api.MaxSlope, Jerk: 999, Stylus: 1000}, []api.Point{{}, {Out: 81}, {}}, api.MaxPer, nowhere},
		"a slope at the radius 0":  {api.Cutter{Half: 1, Wide: 5, Slope: api.MaxSlope}, []api.Point{{}, {Out: 1}}, 1, 1},
		"the least slope, one per": {api.Cutter{Half: 1, Wide: 5, Slope: 1}, []api.Point{{}, {Out: 1}}, 1, 160},
	} {
		if r := leastOf(t, x.c, x.l, x.per); r != x.want {
			t.Errorf("%s: %d, not %d", name, r, x.want)
		}
		checkNeeds(t, x.c, x.l, x.per, x.want)
	}
}

// P3.6: all radii up to the least one are looked at.
func TestLeastByScanning(t *testing.T) {
	r := rand.New(rand.NewSource(360))
	for range 150 {
		c, l := mildCutter(r), bumpy(r, 1+r.Intn(4), 10)
		c.Slope = api.MaxSlope
		per := 1 + r.Int63n(60)
		least := leastOf(t, c, l, per)
		if least == nowhere {
			continue
		}
		for radius := range least {
			if faultless(c, l, radius, per) {
				t.Fatalf("%v by %v has no fault at %d, which is less than %d", l, c, radius, least)
			}
		}
		if !faultless(c, l, least, per) {
			t.Fatalf("%v by %v has a fault at %d", l, c, least)
		}
	}
}

// P3.6, P3.10: a fault at each lesser radius, none from the least one on.
func TestLeastByDefinition(t *testing.T) {
	r := rand.New(rand.NewSource(36))
	var found, none, zero int
	for i := range 6000 {
		c, l, per := mildCutter(r), bumpy(r, r.Intn(7), pick(r, 2, 10, 30)), upTo(r, 1, api.MaxPer)
		if i%4 == 0 {
			c, l = anyCutter(r), wild(r, r.Intn(4))
		}
		least := leastOf(t, c, l, per)
		switch least {
		case 0:
			zero++
		case nowhere:
			none++
		default:
			found++
		}
		for _, radius := range []int64{0, 1, least / 2, least - 1, least, least + 1, least + r.Int63n(1000), (least + api.MaxRadius) / 2, api.MaxRadius} {
			if radius < 0 || radius > api.MaxRadius {
				continue
			}
			_, _, e := groove.Fault(c, l, radius, per)
			if ok := faultless(c, l, radius, per); ok != (radius >= least) || ok != (e == api.ErrNone) {
				t.Fatalf("%v by %v with %d, whose least radius is %d: at %d %v, %d", l, c, per, least, radius, ok, e)
			}
		}
		checkNeeds(t, c, l, per, least)
	}
	if found < 1000 || none < 300 || zero < 300 {
		t.Errorf("%d had a least radius, %d none, and %d the radius 0", found, none, zero)
	}
}

// checkNeeds holds what each index needs against the definition, and the greatest of this against the least radius. (P3.6, P3.10)
func checkNeeds(t *testing.T, c api.Cutter, l []api.Point, per, least int64) {
	t.Helper()
	greatest := int64(0)
	for i := range l {
		need := needsOf(t, c, l, per, i)
		greatest = max(greatest, need)
		if need > 0 && wantedRule(c, l, need-1, per, i) == 0 {
			t.Fatalf("the index %d of %v by %v with %d does not need %d", i, l, c, per, need)
		}
		if need < nowhere && wantedRule(c, l, need, per, i) != 0 {
			t.Fatalf("the index %d of %v by %v with %d needs more than %d", i, l, c, per, need)
		}
	}
	if greatest != least {
		t.Fatalf("%v by %v with %d: the greatest need is %d, the least radius %d", l, c, per, greatest, least)
	}
}

// P3.11
func TestTurnedRound(t *testing.T) {
	r := rand.New(rand.NewSource(311))
	for range 3000 {
		c, l, per := mildCutter(r), bumpy(r, r.Intn(8), pick(r, 2, 10, 30)), upTo(r, 1, api.MaxPer)
		least := leastOf(t, c, l, per)
		turned := slices.Clone(l)
		slices.Reverse(turned)
		var mirrored []api.Point
		for _, p := range l {
			mirrored = append(mirrored, api.Point{In: -p.Out, Out: -p.In})
		}
		if a, b := leastOf(t, c, turned, per), leastOf(t, c, mirrored, per); a != least || b != least {
			t.Fatalf("%v by %v with %d: %d, turned round %d, mirrored %d", l, c, per, least, a, b)
		}
	}
}

// P3.12
func TestPartsOfGrooves(t *testing.T) {
	r := rand.New(rand.NewSource(312))
	for range 400 {
		c, l, per := mildCutter(r), bumpy(r, r.Intn(9), pick(r, 2, 10, 30)), upTo(r, 1, api.MaxPer)
		least, three := leastOf(t, c, l, per), int64(0)
		for to := range len(l) + 1 {
			for from := range to + 1 {
				part := leastOf(t, c, l[from:to], per)
				if part > least {
					t.Fatalf("%v by %v with %d: %d, but %d from %d to %d", l, c, per, least, part, from, to)
				}
				if to-from == 3 {
					three = max(three, part)
				}
			}
		}
		if len(l) >= 3 && three != least {
			t.Fatalf("%v by %v with %d: %d, but its parts of three need %d", l, c, per, least, three)
		}
	}
}

// milder returns a cutter whose limits are no narrower.
func milder(r *rand.Rand, c api.Cutter) api.Cutter {
	more := func(x, most int64) int64 { return min(x+pick(r, 0, 1, r.Int63n(200)), most) }
	c.Thin = max(c.Thin-pick(r, 0, 1, 5), 0)
	c.Wide = more(c.Wide, api.MaxWide)
	c.Slope = more(c.Slope, api.MaxSlope)
	c.Jerk = more(c.Jerk, api.MaxJerk)
	c.Stylus = max(c.Stylus-pick(r, 0, 1, 50), 0)
	return c
}

// P3.14
func TestMilder(t *testing.T) {
	r := rand.New(rand.NewSource(314))
	less := 0
	for range 4000 {
		c, l, per := mildCutter(r), bumpy(r, r.Intn(8), pick(r, 2, 10, 30)), upTo(r, 1, api.MaxPer)
		least := leastOf(t, c, l, per)
		mild := milder(r, c)
		if x := leastOf(t, mild, l, per); x > least {
			t.Fatalf("%v with %d: %d by %v, but %d by %v", l, per, least, c, x, mild)
		} else if x < least {
			less++
		}
		fewer := 1 + r.Int63n(per)
		if x := leastOf(t, c, l, fewer); x > least {
			t.Fatalf("%v by %v: %d with %d, but %d with %d", l, c, least, per, x, fewer)
		}
	}
	if less < 500 {
		t.Errorf("only %d became less", less)
	}
}

// P3.6: the longest groove, whose last points need the most.
func TestLeastOfTheLongest(t *testing.T) {
	c := patient()
	c.Slope = 500
	l := slices.Repeat([]api.Point{{Out: 100}}, api.MaxLong)
	l[api.MaxLong-1].Out = 106
	if r := leastOf(t, c, l, 710); r != 113*12 {
		t.Errorf("the least radius: %d", r)
	}
	if r := needsOf(t, c, l, 710, api.MaxLong-1); r != 113*12 {
		t.Errorf("what the last point needs: %d", r)
	}
	if r := needsOf(t, c, l, 710, api.MaxLong-2); r != 0 {
		t.Errorf("what the point before it needs: %d", r)
	}
}
