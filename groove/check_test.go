package groove_test

import (
	"math"
	"slices"
	"testing"

	"deadwax/api"
	"deadwax/groove"
)

// P3.1
func TestCheck(t *testing.T) {
	c := cutter()
	for name, valid := range map[string]api.Cutter{
		"of the examples":  c,
		"the least":        {Half: 1},
		"the greatest":     {Half: api.MaxHalf, Gain: api.MaxGain, Thin: api.MaxWide, Wide: api.MaxWide, Slope: api.MaxSlope, Jerk: api.MaxJerk, Stylus: api.MaxStylus},
		"Thin equal":       {Half: 1, Thin: 7, Wide: 7},
		"Thin above Half":  {Half: 1, Thin: 100, Wide: 200},
		"Wide below Half":  {Half: 100, Wide: 1},
		"a greatest Half":  {Half: api.MaxHalf},
		"a greatest Gain":  {Half: 1, Gain: api.MaxGain},
		"a greatest Wide":  {Half: 1, Wide: api.MaxWide},
		"a greatest Slope": {Half: 1, Slope: api.MaxSlope},
		"a greatest Jerk":  {Half: 1, Jerk: api.MaxJerk},
		"a great Stylus":   {Half: 1, Stylus: api.MaxStylus},
	} {
		if e := groove.Check(valid); e != api.OK {
			t.Errorf("%s: %d", name, e)
		}
	}
	for _, invalid := range invalidCutters() {
		if e := groove.Check(invalid); e != api.ErrArg {
			t.Errorf("%v: %d", invalid, e)
		}
	}
}

// P3.1
func TestCheckPoints(t *testing.T) {
	edge := int64(api.MaxEdge)
	corners := []api.Point{{In: -edge, Out: edge}, {In: edge, Out: -edge}, {In: edge, Out: edge}, {In: -edge, Out: -edge}}
	for name, l := range map[string][]api.Point{
		"nil":          nil,
		"none":         {},
		"one":          {{}},
		"at the limit": corners,
		"4,096":        slices.Repeat(corners, api.MaxLong/4),
	} {
		if e := groove.CheckPoints(l); e != api.OK {
			t.Errorf("%s: %d", name, e)
		}
	}
	for _, p := range farPoints() {
		for i := range 3 {
			l := make([]api.Point, 3)
			l[i] = p
			if e := groove.CheckPoints(l); e != api.ErrArg {
				t.Errorf("%v: %d", l, e)
			}
		}
	}
	if e := groove.CheckPoints(make([]api.Point, api.MaxLong+1)); e != api.ErrMany {
		t.Errorf("4,097: %d", e)
	}
	if e := groove.CheckPoints(tooManyPoints()); e != api.ErrMany {
		t.Errorf("4,097 that are too far out: %d", e)
	}
}

// result is what a function returns beside its error, and whether it is all zero.
type result struct {
	zero bool
	e    api.Errno
}

// withPoints are the functions with a cutter, a groove and a turn; those without a radius or an index ignore it.
func withPoints() map[string]func(api.Cutter, []api.Point, int64, int64, int) result {
	return map[string]func(api.Cutter, []api.Point, int64, int64, int) result{
		"Fault": func(c api.Cutter, l []api.Point, r, per int64, _ int) result {
			i, rule, e := groove.Fault(c, l, r, per)
			return result{i == 0 && rule == 0, e}
		},
		"Least": func(c api.Cutter, l []api.Point, _, per int64, _ int) result {
			r, e := groove.Least(c, l, per)
			return result{r == 0, e}
		},
		"Needs": func(c api.Cutter, l []api.Point, _, per int64, i int) result {
			r, e := groove.Needs(c, l, per, i)
			return result{r == 0, e}
		},
	}
}

// withSamples are the functions with a cutter and samples; those without a radius and a turn ignore them.
func withSamples() map[string]func(api.Cutter, []api.Sample, int64, int64) result {
	return map[string]func(api.Cutter, []api.Sample, int64, int64) result{
		"Cut": func(c api.Cutter, s []api.Sample, _, _ int64) result {
			l, e := groove.Cut(c, s)
			return result{len(l) == 0, e}
		},
		"Loudest": func(c api.Cutter, s []api.Sample, r, per int64) result {
			k, e := groove.Loudest(c, s, r, per)
			return result{k == 0, e}
		},
	}
}

// The first sentences of the promises, and P3.5, P3.6: errors of cutters come before those of grooves, and these before all others.
func TestErrorsOfGrooves(t *testing.T) {
	good := []api.Point{{In: -400, Out: 400}, {In: -400, Out: 500}, {In: -400, Out: 400}}
	for name, f := range withPoints() {
		for _, c := range invalidCutters() {
			if got := f(c, tooManyPoints(), -1, 0, -1); got != (result{true, api.ErrArg}) {
				t.Errorf("%s with the cutter %v: %v", name, c, got)
			}
			if got := f(c, good, 1000, 1000, 0); got != (result{true, api.ErrArg}) {
				t.Errorf("%s with the cutter %v alone: %v", name, c, got)
			}
		}
		if got := f(cutter(), tooManyPoints(), -1, 0, -1); got != (result{true, api.ErrMany}) {
			t.Errorf("%s of too many: %v", name, got)
		}
		for _, p := range farPoints() {
			if got := f(cutter(), append(slices.Clone(good), p), -1, 0, -1); got != (result{true, api.ErrArg}) {
				t.Errorf("%s of %v: %v", name, p, got)
			}
		}
		for _, per := range beyond(1, api.MaxPer) {
			if got := f(cutter(), good, 1000, per, 0); got != (result{true, api.ErrRange}) {
				t.Errorf("%s in the turn %d: %v", name, per, got)
			}
		}
		for _, l := range [][]api.Point{nil, {{In: 0, Out: 100}}} {
			if got := f(cutter(), l, 1000, 0, 0); got != (result{true, api.ErrRange}) {
				t.Errorf("%s of %v in no turn: %v", name, l, got)
			}
		}
	}
}

// The first sentences of the promises, and P3.2, P3.7: errors of cutters come before those of samples, and these before all others.
func TestErrorsOfSamples(t *testing.T) {
	for name, f := range withSamples() {
		for _, c := range invalidCutters() {
			if got := f(c, tooManySamples(), -1, 0); got != (result{true, api.ErrArg}) {
				t.Errorf("%s with the cutter %v: %v", name, c, got)
			}
			if got := f(c, []api.Sample{{L: 1}}, 1000, 1000); got != (result{true, api.ErrArg}) {
				t.Errorf("%s with the cutter %v alone: %v", name, c, got)
			}
		}
		if got := f(cutter(), tooManySamples(), -1, 0); got != (result{true, api.ErrMany}) {
			t.Errorf("%s of too many: %v", name, got)
		}
		for _, s := range loudSamples() {
			if got := f(cutter(), []api.Sample{{}, s, {}}, -1, 0); got != (result{true, api.ErrArg}) {
				t.Errorf("%s of %v: %v", name, s, got)
			}
		}
	}
}

// P3.4, P3.5, P3.7: a radius and a turn at their limits and beyond; the errors of both are the same.
func TestErrorsOfRadiiAndTurns(t *testing.T) {
	thin := cutter()
	thin.Thin = 801
	for name, f := range map[string]func(r, per int64) result{
		"Arc": func(r, per int64) result {
			a, e := groove.Arc(r, per)
			return result{a == 0, e}
		},
		"Fault": func(r, per int64) result {
			i, rule, e := groove.Fault(thin, []api.Point{{}, {}}, r, per)
			return result{i == 0 && rule == 0, e}
		},
		"Loudest": func(r, per int64) result {
			k, e := groove.Loudest(thin, []api.Sample{{}}, r, per)
			return result{k == 0, e}
		},
	} {
		for _, r := range beyond(0, api.MaxRadius) {
			for _, per := range []int64{0, 1, api.MaxPer, api.MaxPer + 1} {
				if got := f(r, per); got != (result{true, api.ErrRange}) {
					t.Errorf("%s at %d, %d: %v", name, r, per, got)
				}
			}
		}
		for _, per := range beyond(1, api.MaxPer) {
			for _, r := range []int64{0, api.MaxRadius} {
				if got := f(r, per); got != (result{true, api.ErrRange}) {
					t.Errorf("%s at %d, %d: %v", name, r, per, got)
				}
			}
		}
		for _, r := range []int64{0, 1, api.MaxRadius} {
			for _, per := range []int64{1, api.MaxPer} {
				if got := f(r, per); got.e == api.ErrRange {
					t.Errorf("%s at %d, %d: %v", name, r, per, got)
				}
			}
		}
	}
}

// P1: whatever the arguments are, the functions end.
func TestAnyArguments(t *testing.T) {
	numbers := []int64{math.MinInt64, math.MinInt64 + 1, -1 << 40, -1, 0, 1, 1000, 1 << 40, math.MaxInt64}
	for _, x := range numbers {
		for _, y := range numbers {
			for _, c := range []api.Cutter{cutter(), {Half: x, Gain: y, Thin: x, Wide: y, Slope: x, Jerk: y, Stylus: x}} {
				p, s := api.Point{In: x, Out: y}, api.Sample{L: x, R: y}
				for _, l := range [][]api.Point{nil, {p}, {p, {}, p, p}} {
					groove.CheckPoints(l)
					groove.Fault(c, l, x, y)
					groove.Least(c, l, y)
					groove.Needs(c, l, y, int(x))
				}
				groove.Check(c)
				groove.Wall(c, s)
				groove.Cut(c, []api.Sample{s, {}, s})
				groove.Back(c, p)
				groove.Arc(x, y)
				groove.Loudest(c, []api.Sample{s, {}, s}, x, y)
				groove.Loudest(c, []api.Sample{{L: 1}}, x, y)
			}
		}
	}
}
