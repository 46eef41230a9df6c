package play_test

import (
	"math"
	"testing"

	"deadwax/api"
	"deadwax/play"
)

// P6.1
func TestCheckTip(t *testing.T) {
	last := api.Tip{Shape: make([]int64, api.MaxReach)}
	last.Shape[api.MaxReach-1] = api.MaxEdge
	for _, valid := range []api.Tip{ideal(), example(), tip(0, 0), tip(0, 0, 5, 5), tip(0, api.MaxEdge), tip(0, api.MaxEdge, api.MaxEdge), {Shape: make([]int64, api.MaxReach)}, last} {
		if e := play.CheckTip(valid); e != api.OK {
			t.Errorf("%v: %d", valid, e)
		}
	}
	for want, tips := range invalidTips() {
		for _, invalid := range tips {
			if e := play.CheckTip(invalid); e != want {
				t.Errorf("%v: %d, not %d", invalid, e, want)
			}
		}
	}
}

// result is what a function returns beside its error, and whether it is all zero.
type result struct {
	zero bool
	e    api.Errno
}

// withTip are the functions with a tip and a groove; with other arguments that are wrong.
func withTip() map[string]func(api.Tip, []api.Point) result {
	return map[string]func(api.Tip, []api.Point) result{
		"Read": func(x api.Tip, l []api.Point) result {
			r, e := play.Read(x, l)
			return result{len(r) == 0, e}
		},
		"Sweep": func(x api.Tip, l []api.Point) result {
			r, e := play.Sweep(x, l)
			return result{len(r) == 0, e}
		},
		"Miss": func(x api.Tip, l []api.Point) result {
			i, u, e := play.Miss(x, l)
			return result{i == 0 && u == 0, e}
		},
		"Hear": func(x api.Tip, l []api.Point) result {
			h, e := play.Hear(x, tip(0, 0, 0, 0), l, -1)
			return result{len(h) == 0, e}
		},
		"Hear, of the sharp one": func(x api.Tip, l []api.Point) result {
			h, e := play.Hear(tip(0, api.MaxEdge), x, l, -1)
			return result{len(h) == 0, e}
		},
	}
}

// withGroove are the functions with a groove; with other arguments that are wrong, as far as their errors come later.
func withGroove() map[string]func([]api.Point) result {
	functions := map[string]func([]api.Point) result{
		"Greatest": func(l []api.Point) result {
			r, e := play.Greatest(l, 0, -1)
			return result{r == 0, e}
		},
		"Jump": func(l []api.Point) result {
			i, side, e := play.Jump(api.Arm{}, l)
			return result{i == 0 && side == 0, e}
		},
		"Balance": func(l []api.Point) result {
			a, e := play.Balance(l)
			return result{a == api.Arm{}, e}
		},
		"Drop": func(l []api.Point) result {
			i, e := play.Drop(l, []int64{api.MaxPlace + 1}, 0, -1, 0)
			return result{i == 0, e}
		},
	}
	for name, f := range withTip() {
		functions[name] = func(l []api.Point) result { return f(example(), l) }
	}
	return functions
}

// The first sentence of the promises: errors of tips come before those of grooves.
func TestErrorsOfTips(t *testing.T) {
	for name, f := range withTip() {
		for want, tips := range invalidTips() {
			for _, x := range tips {
				for _, l := range [][]api.Point{nil, points(), tooManyPoints(), farPoints()} {
					if got := f(x, l); got != (result{true, want}) {
						t.Errorf("%s with %v: %v, not %d", name, x, got, want)
					}
				}
			}
		}
	}
	many, wrong := tip(), tip(1)
	if h, e := play.Hear(many, wrong, nil, 0); len(h) != 0 || e != api.ErrMany {
		t.Errorf("no blunt tip and a wrong sharp one: %v, %d", h, e)
	}
	if h, e := play.Hear(wrong, many, nil, 0); len(h) != 0 || e != api.ErrArg {
		t.Errorf("a wrong blunt tip and no sharp one: %v, %d", h, e)
	}
}

// The first sentence of the promises: errors of grooves come before all but those of tips, and of arms.
func TestErrorsOfGrooves(t *testing.T) {
	for name, f := range withGroove() {
		if got := f(tooManyPoints()); got != (result{true, api.ErrMany}) {
			t.Errorf("%s of too many: %v", name, got)
		}
		for _, p := range farPoints() {
			if got := f(append(points(), p, points()[0])); got != (result{true, api.ErrArg}) {
				t.Errorf("%s of %v: %v", name, p, got)
			}
		}
	}
}

// As many points as there may be, as far out as they may be.
func TestLongGroove(t *testing.T) {
	l := make([]api.Point, api.MaxLong)
	for i := range l {
		l[i] = api.Point{In: -api.MaxEdge, Out: api.MaxEdge}
	}
	widest := api.Heard{In: api.Extent{Lo: -api.MaxEdge, Hi: -api.MaxEdge}, Out: api.Extent{Lo: api.MaxEdge, Hi: api.MaxEdge}}
	blunt := api.Tip{Shape: make([]int64, api.MaxReach)}
	for i, h := range hear(t, blunt, ideal(), l, api.MaxWow) {
		if h != widest {
			t.Fatalf("at %d %v is heard", i, h)
		}
	}
	if !inside(l, read(t, blunt, l)) || !inside(l, sweep(t, blunt, l)) || !exact(t, blunt, l) {
		t.Errorf("an even groove is not read exactly")
	}
	if n, e := play.Greatest(l, 17, api.MaxStylus); n != api.MaxStylus || e != api.OK {
		t.Errorf("the greatest radius of an even groove is %d, %d", n, e)
	}
	l[api.MaxLong-1].Out--
	if i, u, e := play.Miss(blunt, l); i != api.MaxLong-api.MaxReach || u != api.MaxLong-1 || e != api.OK {
		t.Errorf("a narrow last sample is missed at %d because of %d: %d", i, u, e)
	}
	if n, e := play.Greatest(l, api.MaxStylus, api.MaxStylus); n != api.MaxStylus || e != api.OK {
		t.Errorf("the greatest radius for a great arc is %d, %d", n, e)
	}
}

// P1: whatever the arguments are, the functions end.
func TestAnyArguments(t *testing.T) {
	numbers := []int64{math.MinInt64, math.MinInt64 + 1, -1 << 40, -1, 0, 1, 2, 1000, api.MaxEdge, 1 << 40, math.MaxInt64 - 1, math.MaxInt64}
	for _, x := range numbers {
		for _, y := range numbers {
			p := api.Point{In: x, Out: y}
			h := api.Heard{In: api.Extent{Lo: x, Hi: y}, Out: api.Extent{Lo: y, Hi: x}}
			play.Round(x, y, x > y)
			play.Channels(cutter(), h)
			play.Channels(api.Cutter{Half: x, Gain: y}, h)
			for _, l := range [][]api.Point{nil, points(), {p, {}, p}} {
				play.Greatest(l, x, y)
				play.Jump(api.Arm{Hold: x, Skate: y}, l)
				play.Balance(l)
				for _, shape := range [][]int64{nil, {0}, {x, y}, {0, x, y}, {0, y}} {
					play.Read(api.Tip{Shape: shape}, l)
					play.Sweep(api.Tip{Shape: shape}, l)
					play.Miss(api.Tip{Shape: shape}, l)
					play.Hear(api.Tip{Shape: shape}, ideal(), l, x)
					play.Hear(example(), api.Tip{Shape: shape}, l, y)
				}
				for _, z := range numbers {
					play.Wow(x, y, z)
					play.Drop(l, []int64{x, y, z}, x, y, z)
					play.Drop(l, []int64{900, 900, 900}, x, y, z)
				}
			}
		}
	}
}
