package groove_test

import (
	"math/rand"
	"slices"
	"testing"

	"deadwax/api"
	"deadwax/groove"
)

// P3.4
func TestArc(t *testing.T) {
	for _, x := range []struct{ r, per, want int64 }{
		{1130000, 1000, 50410000},
		{0, 1, 0},
		{0, api.MaxPer, 0},
		{113, 710, 1},
		{112, 710, 0},
		{226, 710, 4},
		{159, 710, 1},
		{160, 710, 2},
		{1, 1, 39},
		{api.MaxRadius, 1, 694511785182089},
		{api.MaxRadius, api.MaxPer, 161703},
		{1, api.MaxPer, 0},
	} {
		if a, e := groove.Arc(x.r, x.per); e != api.OK || a != x.want {
			t.Errorf("Arc at %d with %d: %d, %d, not %d", x.r, x.per, a, e, x.want)
		}
	}
}

// P3.4
func TestArcByDefinition(t *testing.T) {
	r := rand.New(rand.NewSource(34))
	for range 5000 {
		radius, per := upTo(r, 0, api.MaxRadius), upTo(r, 1, api.MaxPer)
		want := wantedArc(radius, per)
		if a, e := groove.Arc(radius, per); e != api.OK || !want.IsInt64() || a != want.Int64() {
			t.Fatalf("Arc at %d with %d: %d, %d, not %d", radius, per, a, e, want)
		}
	}
}

// checkFault holds the fault of a groove against a rule, 0 for none.
func checkFault(t *testing.T, name string, c api.Cutter, l []api.Point, r, per int64, index, rule int) {
	t.Helper()
	want := api.OK
	if rule == 0 {
		want = api.ErrNone
	}
	if i, n, e := groove.Fault(c, l, r, per); i != index || n != rule || e != want {
		t.Errorf("%s: %d, %d, %d, not %d, %d, %d", name, i, n, e, index, rule, want)
	}
}

// P3.5: the chapter's examples.
func TestFaultExamples(t *testing.T) {
	l := cut(t, cutter(), api.Sample{}, api.Sample{L: 400})
	checkFault(t, "farther out", cutter(), l, 1000000, 1000, 0, 0)
	checkFault(t, "at the least radius", cutter(), l, 127324, 1000, 0, 0)
	checkFault(t, "farther in", cutter(), l, 127323, 1000, 1, api.RuleSlope)
}

// P3.5: each rule just kept, and just broken. At the radius 113 k a sample is k units long, with 710 in a turn.
func TestFaultOfEachRule(t *testing.T) {
	c := patient()
	c.Thin, c.Wide = 10, 20
	checkFault(t, "thin enough", c, []api.Point{{Out: 10}}, 0, 1, 0, 0)
	checkFault(t, "too thin", c, []api.Point{{Out: 9}}, api.MaxRadius, 1, 0, api.RuleThin)
	checkFault(t, "too thin farther out", c, []api.Point{{In: -100, Out: -91}}, api.MaxRadius, 1, 0, api.RuleThin)
	checkFault(t, "turned round", c, []api.Point{{In: 15}}, api.MaxRadius, 1, 0, api.RuleThin)
	checkFault(t, "wide enough", c, []api.Point{{In: -10, Out: 10}}, 0, 1, 0, 0)
	checkFault(t, "too wide", c, []api.Point{{In: -11, Out: 10}}, api.MaxRadius, 1, 0, api.RuleWide)

	c = patient()
	c.Slope = 500
	for name, l := range map[string][]api.Point{
		"outwards with Out": {{Out: 100}, {Out: 106}},
		"inwards with Out":  {{Out: 106}, {Out: 100}},
		"outwards with In":  {{In: -106, Out: 100}, {In: -100, Out: 100}},
		"inwards with In":   {{In: -100, Out: 100}, {In: -106, Out: 100}},
		"with In alone":     {{In: -100, Out: 100}, {In: -106, Out: 105}},
		"with Out alone":    {{In: -100, Out: 100}, {In: -105, Out: 106}},
		"with both":         {{In: -100, Out: 100}, {In: -94, Out: 106}},
	} {
		checkFault(t, name, c, l, 113*12, 710, 0, 0)
		checkFault(t, name+", too steep", c, l, 113*12-1, 710, 1, api.RuleSlope)
	}
	c.Slope = 0
	checkFault(t, "no slope", c, []api.Point{{Out: 100}, {Out: 100}}, 0, 710, 0, 0)
	checkFault(t, "no slope allowed", c, []api.Point{{Out: 100}, {Out: 101}}, api.MaxRadius, 1, 1, api.RuleSlope)
	c.Slope = api.MaxSlope
	checkFault(t, "a slope at the radius 0", c, []api.Point{{Out: 100}, {Out: 101}}, 0, 1, 1, api.RuleSlope)
	checkFault(t, "the greatest slope", c, []api.Point{{In: 0, Out: 0}, {In: 10, Out: 10}}, 113, 710, 0, 0)
	checkFault(t, "above the greatest slope", c, []api.Point{{In: 0, Out: 0}, {In: 10, Out: 11}}, 113, 710, 1, api.RuleSlope)
}

// bends are grooves whose second difference is 8 at the index 1, in one edge or in both, up or down.
func bends() map[string][]api.Point {
	return map[string][]api.Point{
		"a peak of Out":   {{Out: 100}, {Out: 104}, {Out: 100}},
		"a valley of Out": {{Out: 100}, {Out: 96}, {Out: 100}},
		"a peak of In":    {{In: 0, Out: 100}, {In: 4, Out: 100}, {In: 0, Out: 100}},
		"a valley of In":  {{In: 0, Out: 100}, {In: -4, Out: 100}, {In: 0, Out: 100}},
		"Out first":       {{Out: 100}, {Out: 108}, {Out: 108}},
		"Out last":        {{Out: 100}, {Out: 100}, {Out: 108}},
		"In first":        {{In: 0, Out: 100}, {In: -8, Out: 100}, {In: -8, Out: 100}},
		"In, less of Out": {{In: 0, Out: 100}, {In: 4, Out: 103}, {In: 0, Out: 100}},
		"Out, less of In": {{In: 0, Out: 100}, {In: 3, Out: 96}, {In: 0, Out: 100}},
	}
}

// P3.5
func TestFaultOfBends(t *testing.T) {
	for name, l := range bends() {
		c := patient()
		c.Jerk = 8
		checkFault(t, name, c, l, api.MaxRadius, 1, 0, 0)
		c.Jerk = 7
		checkFault(t, name+", too sudden", c, l, api.MaxRadius, 1, 1, api.RuleJerk)
		c = patient()
		c.Stylus = 2
		checkFault(t, name+" farther out", c, l, 113*4, 710, 0, 0)
		checkFault(t, name+" farther in", c, l, 113*4-1, 710, 1, api.RuleBend)
		c.Stylus = 0
		checkFault(t, name+" with the stylus 0", c, l, 113*4-1, 710, 0, 0)
	}
	c := patient()
	c.Jerk = 0
	straight := []api.Point{{In: 0, Out: 100}, {In: 7, Out: 110}, {In: 14, Out: 120}}
	checkFault(t, "straight on", c, straight, api.MaxRadius, 1, 0, 0)
	c.Stylus = api.MaxStylus
	checkFault(t, "straight on with a great stylus", c, straight, 113, 710, 0, 0)
	checkFault(t, "two points", c, straight[:2], 113, 710, 0, 0)
	checkFault(t, "the last one of two", c, []api.Point{{Out: 0}, {Out: 1000}}, api.MaxRadius, 1, 0, 0)
}

// P3.5: the first index, and there the least rule.
func TestFaultIsTheFirst(t *testing.T) {
	flat, high := api.Point{In: -50, Out: 50}, api.Point{In: -50, Out: 90}
	strict := api.Cutter{Half: 1, Thin: 100, Wide: 100, Stylus: 1}
	checkFault(t, "all of a peak", strict, []api.Point{flat, high, flat}, 0, 1, 1, api.RuleWide)
	strict.Wide = 140
	checkFault(t, "not the width", strict, []api.Point{flat, high, flat}, 0, 1, 1, api.RuleSlope)
	strict.Slope = api.MaxSlope
	checkFault(t, "not the slope", strict, []api.Point{flat, high, flat}, 113, 710, 1, api.RuleSlope)
	checkFault(t, "nor farther out", strict, []api.Point{flat, high, flat}, 113*4, 710, 1, api.RuleJerk)
	strict.Jerk = 79
	checkFault(t, "a jerk and a bend", strict, []api.Point{flat, high, flat}, 113*4, 710, 1, api.RuleJerk)
	strict.Jerk = 80
	checkFault(t, "a bend alone", strict, []api.Point{flat, high, flat}, 113*4, 710, 1, api.RuleBend)
	checkFault(t, "nothing", strict, []api.Point{flat, high, flat}, 113*9, 710, 0, 0)
	strict.Thin, strict.Wide = 101, 102
	checkFault(t, "a width before a slope", strict, []api.Point{flat, high, flat}, 0, 1, 0, api.RuleThin)
	strict.Thin = 0
	checkFault(t, "a slope before a width", strict, []api.Point{{Out: 100}, {Out: 99}, {Out: 103}}, 0, 1, 1, api.RuleSlope)
	strict.Slope = 10
	checkFault(t, "too thin and too wide are not at one index", strict, []api.Point{{Out: 103}, {Out: -1}}, 0, 1, 0, api.RuleWide)
	none := api.Cutter{Half: 1}
	checkFault(t, "no points", none, nil, 0, 1, 0, 0)
	checkFault(t, "no points either", none, []api.Point{}, 0, 1, 0, 0)
	checkFault(t, "no width", none, []api.Point{{}, {}, {}}, 0, 1, 0, 0)
}

// P3.5, at the limits of all numbers.
func TestFaultAtTheLimits(t *testing.T) {
	edge := int64(api.MaxEdge)
	in, out := api.Point{In: -edge, Out: -edge}, api.Point{In: edge, Out: edge}
	c := patient()
	checkFault(t, "a slope in the longest turn", c, []api.Point{in, out}, api.MaxRadius, api.MaxPer, 1, api.RuleSlope)
	checkFault(t, "a slope in the shortest turn", c, []api.Point{in, out}, api.MaxRadius, 1, 0, 0)
	checkFault(t, "a jerk", c, []api.Point{in, out, in}, api.MaxRadius, 1, 1, api.RuleJerk)
	l := slices.Repeat([]api.Point{{In: -5, Out: 5}}, api.MaxLong)
	checkFault(t, "4,096 points", c, l, 0, api.MaxPer, 0, 0)
	l[api.MaxLong-1].Out = 6
	checkFault(t, "4,096 points of which the last one is steep", c, l, 0, api.MaxPer, api.MaxLong-1, api.RuleSlope)
	l[api.MaxLong-1].Out = -6
	checkFault(t, "4,096 points of which the last one is thin", c, l, 0, api.MaxPer, api.MaxLong-1, api.RuleThin)
}

// P3.5
func TestFaultByDefinition(t *testing.T) {
	r := rand.New(rand.NewSource(35))
	var seen [api.RuleBend + 1]int
	for i := range 20000 {
		c, l := mildCutter(r), bumpy(r, r.Intn(9), pick(r, 2, 10, 30))
		radius, per := r.Int63n(3000), 1+r.Int63n(300)
		if i%4 == 0 {
			c, l, radius, per = anyCutter(r), wild(r, r.Intn(4)), upTo(r, 0, api.MaxRadius), upTo(r, 1, api.MaxPer)
		}
		index, rule, e := wantedFault(c, l, radius, per)
		seen[rule]++
		if gotI, gotRule, gotE := groove.Fault(c, l, radius, per); gotI != index || gotRule != rule || gotE != e {
			t.Fatalf("%v by %v at %d with %d: %d, %d, %d, not %d, %d, %d", l, c, radius, per, gotI, gotRule, gotE, index, rule, e)
		}
	}
	for rule, n := range seen {
		if n < 200 {
			t.Errorf("the rule %d was broken only %d times", rule, n)
		}
	}
}
