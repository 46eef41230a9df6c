package lathe_test

import (
	"math"
	"slices"
	"testing"

	"deadwax/api"
	"deadwax/lathe"
)

// P5.1
func TestCheck(t *testing.T) {
	for name, valid := range map[string]api.Blank{
		"of the examples": blank(),
		"the least":       {Per: 1},
		"the greatest":    {Per: api.MaxPer, Rim: api.MaxRadius, Core: api.MaxRadius, Land: api.MaxLand, Slow: api.MaxInward, Fast: api.MaxInward},
		"Core at 0":       {Per: 1, Rim: api.MaxRadius, Fast: api.MaxInward},
		"a great Land":    {Per: 1, Land: api.MaxLand},
		"a great Fast":    {Per: 1, Slow: 5, Fast: api.MaxInward},
		"Slow as Fast":    {Per: 1, Slow: 5, Fast: 5},
		"Core as Rim":     {Per: 1, Rim: 5, Core: 5},
	} {
		if e := lathe.Check(valid); e != api.OK {
			t.Errorf("%s: %d", name, e)
		}
	}
	for _, invalid := range invalidBlanks() {
		if e := lathe.Check(invalid); e != api.ErrArg {
			t.Errorf("%v: %d", invalid, e)
		}
	}
}

// result is what a function returns beside its error, and whether it is all zero.
type result struct {
	zero bool
	e    api.Errno
}

// withGroove are the functions with a blank and a groove.
func withGroove() map[string]func(api.Blank, []api.Point) result {
	return map[string]func(api.Blank, []api.Point) result{
		"Outermost": func(b api.Blank, l []api.Point) result {
			r, e := lathe.Outermost(b, l)
			return result{len(r) == 0, e}
		},
		"Refuse": func(b api.Blank, l []api.Point) result {
			p, e := lathe.Refuse(b, l)
			return result{len(p) == 0, e}
		},
		"CheckRefusal": func(b api.Blank, l []api.Point) result {
			return result{true, lathe.CheckRefusal(b, l, make([]api.Step, api.MaxSteps+1))}
		},
		"Fits": func(b api.Blank, l []api.Point) result {
			n, e := lathe.Fits(b, l)
			return result{n == 0, e}
		},
	}
}

// withCut are the functions with a blank, a groove and a cut; with other arguments that are wrong.
func withCut() map[string]func(api.Blank, []api.Point, []int64) result {
	return map[string]func(api.Blank, []api.Point, []int64) result{
		"CheckCut": func(b api.Blank, l []api.Point, r []int64) result {
			i, rule, e := lathe.CheckCut(b, l, r)
			return result{i == 0 && rule == 0, e}
		},
		"Land": func(b api.Blank, l []api.Point, r []int64) result {
			n, e := lathe.Land(b, l, r, -1)
			return result{n == 0, e}
		},
		"Tightest": func(b api.Blank, l []api.Point, r []int64) result {
			i, n, e := lathe.Tightest(b, l, r)
			return result{i == 0 && n == 0, e}
		},
		"Locked": func(b api.Blank, l []api.Point, r []int64) result {
			c, e := lathe.Locked(b, l, r, 0)
			return result{c == 0, e}
		},
	}
}

// all are the functions with a blank and a groove; those with a cut get one that is wrong.
func all() map[string]func(api.Blank, []api.Point) result {
	functions := withGroove()
	for name, f := range withCut() {
		functions[name] = func(b api.Blank, l []api.Point) result {
			return f(b, l, make([]int64, len(l)+1))
		}
	}
	return functions
}

// The first sentence of the promises: errors of blanks come before those of grooves, and these before all others.
func TestErrorsOfBlanksAndGrooves(t *testing.T) {
	for name, f := range all() {
		for _, b := range invalidBlanks() {
			if got := f(b, tooManyPoints()); got != (result{true, api.ErrArg}) {
				t.Errorf("%s with the blank %v: %v", name, b, got)
			}
			if got := f(b, points()); got != (result{true, api.ErrArg}) {
				t.Errorf("%s with the blank %v alone: %v", name, b, got)
			}
			if got := f(b, nil); got != (result{true, api.ErrArg}) {
				t.Errorf("%s with the blank %v and no points: %v", name, b, got)
			}
		}
		if got := f(blank(), tooManyPoints()); got != (result{true, api.ErrMany}) {
			t.Errorf("%s of too many: %v", name, got)
		}
		for _, p := range farPoints() {
			if got := f(blank(), append(points(), p, points()[0])); got != (result{true, api.ErrArg}) {
				t.Errorf("%s of %v: %v", name, p, got)
			}
		}
	}
}

// The second sentence of the promises, and P5.3, P5.5, P5.7: the errors of a cut.
func TestErrorsOfCuts(t *testing.T) {
	for name, f := range withCut() {
		for _, r := range [][]int64{nil, radii()[:4], append(radii(), 0), {api.MaxPlace + 1}} {
			if got := f(blank(), points(), r); got != (result{true, api.ErrEqual}) {
				t.Errorf("%s of %v: %v", name, r, got)
			}
		}
		if got := f(blank(), nil, []int64{0}); got != (result{true, api.ErrEqual}) {
			t.Errorf("%s of a radius without a point: %v", name, got)
		}
		for _, x := range beyond(-api.MaxPlace, api.MaxPlace) {
			for i := range radii() {
				r := radii()
				r[i] = x
				if got := f(blank(), points(), r); got != (result{true, api.ErrArg}) {
					t.Errorf("%s of %v: %v", name, r, got)
				}
			}
		}
		for _, x := range []int64{-api.MaxPlace, api.MaxPlace} {
			if got := f(blank(), points(), slices.Repeat([]int64{x}, 5)); got.e == api.ErrArg || got.e == api.ErrEqual {
				t.Errorf("%s of %d: %v", name, x, got)
			}
		}
	}
}

// P1: whatever the arguments are, the functions end.
func TestAnyArguments(t *testing.T) {
	numbers := []int64{math.MinInt64, math.MinInt64 + 1, -1 << 40, -1, 0, 1, 2, 1000, api.MaxPer, 1 << 40, math.MaxInt64}
	for _, x := range numbers {
		for _, y := range numbers {
			for _, b := range []api.Blank{blank(), {Per: x, Rim: y, Core: x, Land: y, Slow: x, Fast: y}, {Per: x, Rim: 1000, Fast: y}} {
				p := api.Point{In: x, Out: y}
				steps := []api.Step{{Rule: int(x), At: int(y)}, {Rule: int(y), At: int(x)}, {Rule: api.CutLand, At: int(x)}}
				for _, l := range [][]api.Point{nil, points(), {p, {}, p}} {
					lathe.Check(b)
					lathe.Outermost(b, l)
					lathe.Refuse(b, l)
					lathe.Fits(b, l)
					for _, r := range [][]int64{nil, radii(), {x, y, x}} {
						lathe.CheckCut(b, l, r)
						lathe.Land(b, l, r, int(x))
						lathe.Tightest(b, l, r)
						lathe.Locked(b, l, r, y)
					}
					for i := range steps {
						lathe.CheckRefusal(b, l, steps[i:])
					}
				}
			}
		}
	}
}
