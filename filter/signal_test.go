package filter_test

import (
	"math/rand"
	"slices"
	"testing"

	"deadwax/api"
	"deadwax/filter"
)

// P2.2
func TestApplyExamples(t *testing.T) {
	for _, c := range []struct {
		name string
		x, y []int64
	}{
		{"warm", []int64{100, 0, 0, -3}, []int64{100, 75, 37, 15}},
		{"bright", []int64{4, 4, -1}, []int64{4, 1, -4}},
		{"flat", []int64{4, 4, -1}, []int64{4, 4, -1}},
		{"shellac", []int64{256, 0, 0, -256}, []int64{256, 128, 96, -204}},
	} {
		if y, e := filter.Apply(curve(t, c.name), c.x); e != api.OK || !slices.Equal(y, c.y) {
			t.Errorf("Apply %s to %v: %v, %d", c.name, c.x, y, e)
		}
		if x, e := filter.Undo(curve(t, c.name), c.y); e != api.OK || !slices.Equal(x, c.x) {
			t.Errorf("Undo %s for %v: %v, %d", c.name, c.y, x, e)
		}
	}
}

// P2.2
func TestApplyAtItsLimit(t *testing.T) {
	sum := api.Curve{Feed: []int64{1}, Share: 1}
	for _, sign := range []int64{1, -1} {
		most := sign * api.MaxSample
		if y, e := filter.Apply(sum, []int64{most - sign, sign}); e != api.OK || !slices.Equal(y, []int64{most - sign, most}) {
			t.Errorf("the greatest amount: %v, %d", y, e)
		}
		if x, e := filter.Undo(sum, []int64{sign - most, sign}); e != api.OK || !slices.Equal(x, []int64{sign - most, most}) {
			t.Errorf("the greatest amount, undone: %v, %d", x, e)
		}
		for _, after := range [][]int64{nil, {0, 0, 0}, {-most, most}} {
			if y, e := filter.Apply(sum, append([]int64{0, most, sign}, after...)); e != api.ErrOver || len(y) != 0 {
				t.Errorf("one above it: %v, %d", y, e)
			}
			if x, e := filter.Undo(sum, append([]int64{0, -most, sign}, after...)); e != api.ErrOver || len(x) != 0 {
				t.Errorf("one above it, undone: %v, %d", x, e)
			}
		}
	}
}

// P2.2: corrections that leave the 64 bits are too great, whatever is left of them.
func TestApplyGrowsBeyondAllBits(t *testing.T) {
	wild := api.Curve{Feed: slices.Repeat([]int64{api.MaxWeight}, 8), Back: slices.Repeat([]int64{api.MaxWeight}, 8), Share: 1}
	long := make([]int64, api.MaxLong)
	long[0] = 1
	if y, e := filter.Apply(wild, long); e != api.ErrOver || len(y) != 0 {
		t.Errorf("Apply: %d, %d", len(y), e)
	}
	if x, e := filter.Undo(wild, long); e != api.ErrOver || len(x) != 0 {
		t.Errorf("Undo: %d, %d", len(x), e)
	}
	double := api.Curve{Back: []int64{1}, Share: 1}
	if y, e := filter.Apply(api.Curve{Back: []int64{2}, Share: 1}, append(long[:1:1], make([]int64, 70)...)); e != api.ErrOver || len(y) != 0 {
		t.Errorf("a curve that doubles: %d, %d", len(y), e)
	}
	if y, e := filter.ApplyAll(slices.Repeat([]api.Curve{double}, 8), slices.Repeat([]int64{1}, api.MaxLong)); e != api.ErrOver || len(y) != 0 {
		t.Errorf("a chain that sums up: %d, %d", len(y), e)
	}
}

// P2.2: of a chain the result of each curve counts, not only that of the last one.
func TestChainBetween(t *testing.T) {
	up, down := api.Curve{Feed: []int64{1}, Share: 1}, api.Curve{Back: []int64{-1}, Share: 1}
	loud := []int64{api.MaxSample, api.MaxSample}
	for _, l := range [][]api.Curve{{up, down}, {{Share: 1}, up, down, {Share: 7}}} {
		if y, e := filter.ApplyAll(l, loud); e != api.ErrOver || len(y) != 0 {
			t.Errorf("ApplyAll: %v, %d", y, e)
		}
		if x, e := filter.UndoAll(l, loud); e != api.ErrOver || len(x) != 0 {
			t.Errorf("UndoAll: %v, %d", x, e)
		}
		slices.Reverse(l)
		if y, e := filter.ApplyAll(l, loud); e != api.OK || !slices.Equal(y, loud) {
			t.Errorf("ApplyAll, reversed: %v, %d", y, e)
		}
		if x, e := filter.UndoAll(l, loud); e != api.OK || !slices.Equal(x, loud) {
			t.Errorf("UndoAll, reversed: %v, %d", x, e)
		}
	}
}

// P2.2
func TestChainOrder(t *testing.T) {
	double, sum := api.Curve{Feed: []int64{-3}, Share: 2}, api.Curve{Back: []int64{1}, Share: 3}
	x := []int64{5, -7, 11, 0, 0, 3}
	first, e := filter.Apply(double, x)
	if e != api.OK {
		t.Fatal(e)
	}
	want, e := filter.Apply(sum, first)
	if e != api.OK {
		t.Fatal(e)
	}
	if y, e := filter.ApplyAll([]api.Curve{double, sum}, x); e != api.OK || !slices.Equal(y, want) {
		t.Errorf("ApplyAll: %v, not %v: %d", y, want, e)
	}
	if y, e := filter.ApplyAll([]api.Curve{sum, double}, x); e != api.OK || slices.Equal(y, want) {
		t.Errorf("ApplyAll in the other order: %v: %d", y, e)
	}
	if got, e := filter.UndoAll([]api.Curve{double, sum}, want); e != api.OK || !slices.Equal(got, x) {
		t.Errorf("UndoAll: %v: %d", got, e)
	}
}

// P2.2
func TestSignalsByDefinition(t *testing.T) {
	r := rand.New(rand.NewSource(22))
	fit := 0
	for i := range 6000 {
		one := []func(*rand.Rand) api.Curve{anyCurve, tameCurve}[i%2]
		l := chain(r, r.Intn(4), one)
		x := signal(r, r.Intn(25), []int64{3, 100, 9000, api.MaxSample}[r.Intn(4)])
		want, wantE := wantedApplyAll(l, x)
		if got, e := filter.ApplyAll(l, x); e != wantE || !slices.Equal(got, want) {
			t.Fatalf("ApplyAll of %v for %v: %v, %d, not %v, %d", l, x, got, e, want, wantE)
		}
		if len(l) == 1 {
			if got, e := filter.Apply(l[0], x); e != wantE || !slices.Equal(got, want) {
				t.Fatalf("Apply of %v for %v: %v, %d, not %v, %d", l, x, got, e, want, wantE)
			}
		}
		if wantE == api.OK && len(x) > 0 && len(l) > 0 {
			fit++
		}
		want, wantE = wantedUndoAll(l, x)
		if got, e := filter.UndoAll(l, x); e != wantE || !slices.Equal(got, want) {
			t.Fatalf("UndoAll of %v for %v: %v, %d, not %v, %d", l, x, got, e, want, wantE)
		}
		if len(l) == 1 {
			if got, e := filter.Undo(l[0], x); e != wantE || !slices.Equal(got, want) {
				t.Fatalf("Undo of %v for %v: %v, %d, not %v, %d", l, x, got, e, want, wantE)
			}
		}
	}
	if fit < 1000 {
		t.Errorf("only %d signals were not too loud", fit)
	}
}

// P2.2: the longest signal, and the longest chain.
func TestSignalsAtTheirLimits(t *testing.T) {
	r := rand.New(rand.NewSource(2))
	l := chain(r, api.MaxCurves, func(r *rand.Rand) api.Curve {
		return api.Curve{Feed: signal(r, 8, 3), Back: signal(r, 8, 3), Share: 512}
	})
	x := signal(r, api.MaxLong, 20000)
	x[0], x[api.MaxLong-1] = api.MaxSample, -20000
	want, wantE := wantedApplyAll(l, x)
	y, e := filter.ApplyAll(l, x)
	if wantE != api.OK || e != api.OK || !slices.Equal(y, want) {
		t.Fatalf("ApplyAll: %d, not %d", e, wantE)
	}
	if got, e := filter.UndoAll(l, y); e != api.OK || !slices.Equal(got, x) {
		t.Errorf("UndoAll: %d", e)
	}
}

// P2.2: a chain without curves, and signals without numbers.
func TestSignalsEmpty(t *testing.T) {
	x := []int64{api.MaxSample, 0, -api.MaxSample}
	for _, l := range [][]api.Curve{nil, {}} {
		for _, f := range []func([]api.Curve, []int64) ([]int64, api.Errno){filter.ApplyAll, filter.UndoAll} {
			y, e := f(l, x)
			if e != api.OK || !slices.Equal(y, x) {
				t.Fatalf("%v, %d", y, e)
			}
			y[0] = 1
			if x[0] != api.MaxSample {
				t.Fatal("the result is the argument")
			}
		}
	}
	for _, x := range [][]int64{nil, {}} {
		for _, name := range named {
			if y, e := filter.Apply(curve(t, name), x); e != api.OK || len(y) != 0 {
				t.Errorf("Apply: %v, %d", y, e)
			}
			if y, e := filter.Undo(curve(t, name), x); e != api.OK || len(y) != 0 {
				t.Errorf("Undo: %v, %d", y, e)
			}
		}
	}
}

// ofOne are the functions with a curve and a signal.
func ofOne() map[string]func(api.Curve, []int64) ([]int64, api.Errno) {
	return map[string]func(api.Curve, []int64) ([]int64, api.Errno){
		"Apply": filter.Apply,
		"Undo":  filter.Undo,
		"ApplyAll": func(c api.Curve, x []int64) ([]int64, api.Errno) {
			return filter.ApplyAll([]api.Curve{c}, x)
		},
		"UndoAll": func(c api.Curve, x []int64) ([]int64, api.Errno) {
			return filter.UndoAll([]api.Curve{{Share: 1}, c}, x)
		},
		"Match": func(c api.Curve, x []int64) ([]int64, api.Errno) {
			i, e := filter.Match([]api.Curve{c}, x, x)
			return make([]int64, i), e
		},
		"Match, the second signal": func(c api.Curve, x []int64) ([]int64, api.Errno) {
			i, e := filter.Match([]api.Curve{{Share: 1}, c}, nil, x)
			return make([]int64, i), e
		},
	}
}

// P2.2, P2.4
func TestSignalErrors(t *testing.T) {
	for name, f := range ofOne() {
		for curve, c := range invalidCurves() {
			for _, x := range [][]int64{nil, {1}, {api.MaxSample + 1}, tooMany()} {
				if y, e := f(c.c, x); e != c.want || len(y) != 0 {
					t.Errorf("%s, %s: %d, %d", name, curve, len(y), e)
				}
			}
		}
		flat := api.Curve{Share: 1}
		if y, e := f(flat, tooMany()); e != api.ErrMany || len(y) != 0 {
			t.Errorf("%s, a long signal: %d, %d", name, len(y), e)
		}
		if y, e := f(flat, make([]int64, api.MaxLong+1)); e != api.ErrMany || len(y) != 0 {
			t.Errorf("%s, a long signal of zeros: %d, %d", name, len(y), e)
		}
		for _, v := range beyond(api.MaxSample) {
			for at := range 3 {
				x := []int64{7, 7, 7}
				x[at] = v
				if y, e := f(flat, x); e != api.ErrRange || len(y) != 0 {
					t.Errorf("%s, %d at %d: %v, %d", name, v, at, y, e)
				}
			}
		}
		if _, e := f(flat, []int64{api.MaxSample, -api.MaxSample}); e == api.ErrRange {
			t.Errorf("%s, the greatest amounts: %d", name, e)
		}
		if _, e := f(flat, make([]int64, api.MaxLong)); e == api.ErrMany {
			t.Errorf("%s, the longest signal: %d", name, e)
		}
		// what is too loud later does not matter before the signal is valid
		if _, e := f(api.Curve{Feed: []int64{1}, Share: 1}, []int64{api.MaxSample, api.MaxSample, -1 << 15}); e != api.ErrRange {
			t.Errorf("%s, too loud at last: %d", name, e)
		}
	}
}

// P2.2, P2.4
func TestChainErrors(t *testing.T) {
	flat := api.Curve{Share: 1}
	many := append(slices.Repeat([]api.Curve{flat}, 7), api.Curve{Feed: make([]int64, 9)}, api.Curve{})
	for name, f := range map[string]func([]api.Curve, []int64) api.Errno{
		"ApplyAll": func(l []api.Curve, x []int64) api.Errno { _, e := filter.ApplyAll(l, x); return e },
		"UndoAll":  func(l []api.Curve, x []int64) api.Errno { _, e := filter.UndoAll(l, x); return e },
		"Match":    func(l []api.Curve, x []int64) api.Errno { _, e := filter.Match(l, x, x); return e },
	} {
		for _, c := range []struct {
			what string
			l    []api.Curve
			x    []int64
			want api.Errno
		}{
			{"eight, of which the last one has nine coefficients", many[:8:8], nil, api.ErrMany},
			{"eight that are valid", append(many[:7:7], flat), []int64{1}, api.OK},
			{"nine", append(many[:7:7], flat, flat), []int64{1}, api.ErrMany},
			{"nine that are not valid", make([]api.Curve, 9), tooMany(), api.ErrMany},
			{"the first one of two", []api.Curve{flat, {}, {Feed: make([]int64, 9)}}, tooMany(), api.ErrArg},
			{"the first one of two, the other way", []api.Curve{flat, {Feed: make([]int64, 9)}, {}}, []int64{1 << 20}, api.ErrMany},
			{"the last one", []api.Curve{flat, flat, {}}, tooMany(), api.ErrArg},
			{"a signal that is not valid", []api.Curve{flat}, []int64{1 << 20}, api.ErrRange},
		} {
			if e := f(c.l, c.x); e != c.want {
				t.Errorf("%s, %s: %d, not %d", name, c.what, e, c.want)
			}
		}
	}
}

// P2.4
func TestMatch(t *testing.T) {
	warm, bright, flat := curve(t, "warm"), curve(t, "bright"), curve(t, "flat")
	x, y := []int64{100, 0, 0, -3}, []int64{100, 75, 37, 15}
	up := api.Curve{Feed: []int64{1}, Share: 1}
	for _, c := range []struct {
		name string
		l    []api.Curve
		x, y []int64
		i    int
		e    api.Errno
	}{
		{"the only one", []api.Curve{warm}, x, y, 0, api.OK},
		{"the last one", []api.Curve{flat, bright, warm}, x, y, 2, api.OK},
		{"the first one of two", []api.Curve{flat, warm, warm}, x, y, 1, api.OK},
		{"none of them", []api.Curve{flat, bright}, x, y, 0, api.ErrNone},
		{"the other way round", []api.Curve{flat, warm, bright}, y, x, 0, api.ErrNone},
		{"no curves", nil, x, y, 0, api.ErrNone},
		{"no curves, and the same signal", nil, x, x, 0, api.ErrNone},
		{"no curves, and no signal", nil, nil, []int64{}, 0, api.ErrNone},
		{"no signal", []api.Curve{bright, warm}, []int64{}, nil, 0, api.OK},
		{"the last number differs", []api.Curve{warm}, x, []int64{100, 75, 37, 14}, 0, api.ErrNone},
		{"the first number differs", []api.Curve{warm}, x, []int64{99, 75, 37, 15}, 0, api.ErrNone},
		{"a curve before it is too loud", []api.Curve{up, flat}, []int64{api.MaxSample, 5}, []int64{api.MaxSample, 5}, 1, api.OK},
		{"all are too loud", []api.Curve{up}, []int64{api.MaxSample, 5}, []int64{api.MaxSample, api.MaxSample}, 0, api.ErrNone},
		{"y is longer", []api.Curve{warm}, x[:3], y, 0, api.ErrEqual},
		{"y is shorter", []api.Curve{warm}, x, y[:3], 0, api.ErrEqual},
		{"y is shorter, and there are no curves", nil, x, nil, 0, api.ErrEqual},
		{"x is too long, y too loud", nil, tooMany(), []int64{1 << 15}, 0, api.ErrMany},
		{"x is too loud, y too long", nil, []int64{1 << 15}, tooMany(), 0, api.ErrRange},
		{"y is too long", nil, nil, tooMany(), 0, api.ErrMany},
		{"y is too loud", nil, nil, []int64{-1 << 15}, 0, api.ErrRange},
		{"a curve is not valid", []api.Curve{warm, {}}, tooMany(), nil, 0, api.ErrArg},
	} {
		if i, e := filter.Match(c.l, c.x, c.y); i != c.i || e != c.e {
			t.Errorf("%s: %d, %d, not %d, %d", c.name, i, e, c.i, c.e)
		}
	}
}

// P2.4
func TestMatchByDefinition(t *testing.T) {
	r := rand.New(rand.NewSource(24))
	for range 1000 {
		l := chain(r, 1+r.Intn(api.MaxCurves), func(r *rand.Rand) api.Curve {
			return api.Curve{Feed: signal(r, r.Intn(3), 1), Back: signal(r, r.Intn(3), 1), Share: 1 + r.Int63n(2)}
		})
		x := signal(r, r.Intn(6), 5)
		y, e := filter.Apply(l[r.Intn(len(l))], x)
		if e != api.OK {
			t.Fatal(e)
		}
		want := slices.IndexFunc(l, func(c api.Curve) bool {
			z, e := wantedApplyAll([]api.Curve{c}, x)
			return e == api.OK && slices.Equal(y, z)
		})
		if i, e := filter.Match(l, x, y); e != api.OK || i != want {
			t.Fatalf("%v for %v and %v: %d, %d, not %d", l, x, y, i, e, want)
		}
	}
}
