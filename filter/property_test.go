package filter_test

import (
	"math/big"
	"math/rand"
	"slices"
	"testing"

	"deadwax/api"
	"deadwax/filter"
)

// P2.9: for all signals whose results are in their limits, with all kinds of curves.
func TestSignalsAreUndone(t *testing.T) {
	r := rand.New(rand.NewSource(209))
	applied, undone := 0, 0
	for i := range 6000 {
		l := chain(r, 1+r.Intn(3), []func(*rand.Rand) api.Curve{anyCurve, tameCurve}[i%2])
		x := signal(r, 1+r.Intn(30), []int64{3, 500, 9000}[r.Intn(3)])
		if y, e := filter.ApplyAll(l, x); e == api.OK {
			applied++
			if got, e := filter.UndoAll(l, y); e != api.OK || !slices.Equal(got, x) {
				t.Fatalf("%v of %v, undone: %v, %d", l, x, got, e)
			}
		}
		if y, e := filter.UndoAll(l, x); e == api.OK {
			undone++
			if got, e := filter.ApplyAll(l, y); e != api.OK || !slices.Equal(got, x) {
				t.Fatalf("%v of %v, brought back: %v, %d", l, x, got, e)
			}
		}
		checkOneUndone(t, l[0], x)
	}
	if applied < 1000 || undone < 1000 {
		t.Errorf("only %d and %d signals were not too loud", applied, undone)
	}
}

func checkOneUndone(t *testing.T, c api.Curve, x []int64) {
	t.Helper()
	if y, e := filter.Apply(c, x); e == api.OK {
		if got, e := filter.Undo(c, y); e != api.OK || !slices.Equal(got, x) {
			t.Fatalf("%v of %v, undone: %v, %d", c, x, got, e)
		}
	}
	if y, e := filter.Undo(c, x); e == api.OK {
		if got, e := filter.Apply(c, y); e != api.OK || !slices.Equal(got, x) {
			t.Fatalf("%v of %v, brought back: %v, %d", c, x, got, e)
		}
	}
}

// P2.9
func TestProgrammesAreUndone(t *testing.T) {
	r := rand.New(rand.NewSource(210))
	narrowed := 0
	for i := range 4000 {
		c := []func(*rand.Rand) api.Curve{anyCurve, tameCurve}[i%2](r)
		p := programme(r, 1+r.Intn(20), []int64{3, 500, 9000}[r.Intn(3)])
		if q, e := filter.Narrow(c, p); e == api.OK {
			narrowed++
			if got, e := filter.Widen(c, q); e != api.OK || !slices.Equal(got, p) {
				t.Fatalf("%v of %v, widened again: %v, %d", c, p, got, e)
			}
		}
		if q, e := filter.Widen(c, p); e == api.OK {
			if got, e := filter.Narrow(c, q); e != api.OK || !slices.Equal(got, p) {
				t.Fatalf("%v of %v, narrowed again: %v, %d", c, p, got, e)
			}
		}
		m, d, e := filter.Split(p)
		if e != api.OK {
			t.Fatal(e)
		}
		if got, e := filter.Join(m, d); e != api.OK || !slices.Equal(got, p) {
			t.Fatalf("%v, joined again: %v, %d", p, got, e)
		}
	}
	if narrowed < 1000 {
		t.Errorf("only %d programmes were not too loud", narrowed)
	}
}

// P2.9: all signals of three numbers from -3 to 3 have outputs of their own.
func TestOutputsDiffer(t *testing.T) {
	r := rand.New(rand.NewSource(211))
	for range 20 {
		c := tameCurve(r)
		seen := map[[3]int64][]int64{}
		for i := range int64(343) {
			x := []int64{i%7 - 3, i/7%7 - 3, i/49 - 3}
			y, e := filter.Apply(c, x)
			if e != api.OK || len(y) != 3 {
				t.Fatal(y, e)
			}
			if other, ok := seen[[3]int64(y)]; ok {
				t.Fatalf("%v: %v and %v have the same output", c, x, other)
			}
			seen[[3]int64(y)] = x
		}
	}
}

// worst is a signal with amounts of at most a that makes each output as great as possible, as far as the inputs' signs alone can.
func worst(c api.Curve, a int64, n int) []int64 {
	x := make([]int64, n)
	for i := range x {
		x[n-1-i] = a
		if i > 0 && i <= len(c.Feed) && c.Feed[i-1] < 0 {
			x[n-1-i] = -a
		}
	}
	return x
}

// P2.10
func TestNoSignalWithinTheHeadroomIsTooLoud(t *testing.T) {
	r := rand.New(rand.NewSource(2010))
	for range 1500 {
		c := tameCurve(r)
		a, e := filter.Headroom(c)
		if e != api.OK {
			t.Fatal(e)
		}
		bound, e := filter.Bound(c, a)
		if e != api.OK {
			t.Fatal(e)
		}
		for _, x := range [][]int64{worst(c, a, 30), worst(c, -a, 30), signal(r, 30, a), slices.Repeat([]int64{a, -a}, 15)} {
			y, e := filter.Apply(c, x)
			if e != api.OK {
				t.Fatalf("%v with the headroom %d is too loud for %v", c, a, x)
			}
			if loudest(y) > bound {
				t.Fatalf("%v of %v is %v, above the bound %d", c, x, y, bound)
			}
		}
		last := int64(0)
		for most := int64(0); most <= api.MaxSample; most += 1 + r.Int63n(3000) {
			b, e := filter.Bound(c, most)
			if e != api.OK || b < last {
				t.Fatalf("the bound of %v for %d: %d, %d, after %d", c, most, b, e, last)
			}
			last = b
		}
	}
}

func loudest(x []int64) int64 {
	most := int64(0)
	for _, v := range x {
		most = max(most, amount(v))
	}
	return most
}

// ideal returns the output without rounding.
func ideal(c api.Curve, x []int64) []*big.Rat {
	var y []*big.Rat
	for t := range x {
		sum := new(big.Rat)
		for i, w := range c.Feed {
			if at := t - 1 - i; at >= 0 {
				sum.Add(sum, new(big.Rat).SetInt64(w*x[at]))
			}
		}
		for i, w := range c.Back {
			if at := t - 1 - i; at >= 0 {
				sum.Add(sum, new(big.Rat).Mul(new(big.Rat).SetInt64(w), y[at]))
			}
		}
		sum.Quo(sum, new(big.Rat).SetInt64(c.Share))
		y = append(y, sum.Add(sum, new(big.Rat).SetInt64(x[t])))
	}
	return y
}

// P2.11
func TestOutputsAreNearlyIdeal(t *testing.T) {
	r := rand.New(rand.NewSource(2011))
	for range 300 {
		c := tameCurve(r)
		x := signal(r, 20, 1000)
		y, e := filter.Apply(c, x)
		if e != api.OK {
			continue
		}
		back := int64(0)
		for _, w := range c.Back {
			back += amount(w)
		}
		most := big.NewRat(c.Share-1, c.Share-back)
		for i, want := range ideal(c, x) {
			off := new(big.Rat).Sub(want, new(big.Rat).SetInt64(y[i]))
			if off.Abs(off).Cmp(most) > 0 {
				t.Fatalf("%v of %v at %d: %d, and the ideal output is %v", c, x, i, y[i], want)
			}
		}
	}
}

// P2.12
func TestCurvesAreCausal(t *testing.T) {
	r := rand.New(rand.NewSource(2012))
	for range 1000 {
		c := tameCurve(r)
		x := signal(r, 1+r.Intn(30), 300)
		y, e := filter.Apply(c, x)
		if e != api.OK {
			continue
		}
		n := r.Intn(len(x) + 1)
		if got, e := filter.Apply(c, x[:n]); e != api.OK || !slices.Equal(got, y[:n]) {
			t.Fatalf("%v of the first %d of %v: %v, %d, not %v", c, n, x, got, e, y[:n])
		}
		zeros := make([]int64, r.Intn(20))
		if got, e := filter.Apply(c, slices.Concat(zeros, x)); e != api.OK || !slices.Equal(got, slices.Concat(zeros, y)) {
			t.Fatalf("%v of %d zeros and %v: %v, %d", c, len(zeros), x, got, e)
		}
		if got, e := filter.Undo(c, slices.Concat(zeros, y)); e != api.OK || !slices.Equal(got, slices.Concat(zeros, x)) {
			t.Fatalf("%v of %d zeros and %v, undone: %v, %d", c, len(zeros), y, got, e)
		}
	}
}

// P2.12
func TestCurvesWithoutCoefficients(t *testing.T) {
	r := rand.New(rand.NewSource(2013))
	for range 300 {
		idle := api.Curve{Feed: make([]int64, r.Intn(9)), Back: make([]int64, r.Intn(9)), Share: 1 + r.Int63n(api.MaxShare)}
		x := append(signal(r, r.Intn(30), api.MaxSample), api.MaxSample, -api.MaxSample)
		if y, e := filter.Apply(idle, x); e != api.OK || !slices.Equal(y, x) {
			t.Fatalf("%v of %v: %v, %d", idle, x, y, e)
		}
		if y, e := filter.Undo(idle, x); e != api.OK || !slices.Equal(y, x) {
			t.Fatalf("%v of %v, undone: %v, %d", idle, x, y, e)
		}
		l := chain(r, 3, anyCurve)
		want, wantE := filter.ApplyAll(l, x)
		got, e := filter.ApplyAll(slices.Insert(l, r.Intn(4), idle), x)
		if e != wantE || !slices.Equal(got, want) {
			t.Fatalf("with %v in a chain: %v, %d, not %v, %d", idle, got, e, want, wantE)
		}
	}
}

// P2.13
func TestMonoIsKept(t *testing.T) {
	r := rand.New(rand.NewSource(2014))
	for range 500 {
		c := anyCurve(r)
		p := make([]api.Sample, r.Intn(30))
		for i := range p {
			v := number(r, api.MaxSample)
			p[i] = api.Sample{L: v, R: v}
		}
		if q, e := filter.Narrow(c, p); e != api.OK || !slices.Equal(q, p) {
			t.Fatalf("Narrow by %v of %v: %v, %d", c, p, q, e)
		}
		if q, e := filter.Widen(c, p); e != api.OK || !slices.Equal(q, p) {
			t.Fatalf("Widen by %v of %v: %v, %d", c, p, q, e)
		}
	}
}

// P2.13
func TestMiddlesAreKept(t *testing.T) {
	r := rand.New(rand.NewSource(2015))
	kept := 0
	for range 1000 {
		c := tameCurve(r)
		p := programme(r, 1+r.Intn(20), 4000)
		want, _, e := filter.Split(p)
		if e != api.OK {
			t.Fatal(e)
		}
		for _, f := range []func(api.Curve, []api.Sample) ([]api.Sample, api.Errno){filter.Narrow, filter.Widen} {
			q, e := f(c, p)
			if e != api.OK {
				continue
			}
			if got, _, e := filter.Split(q); e != api.OK || !slices.Equal(got, want) {
				t.Fatalf("%v of %v: the middles are %v, %d, not %v", c, p, got, e, want)
			}
			kept++
		}
	}
	if kept < 500 {
		t.Errorf("only %d programmes were not too loud", kept)
	}
}

// P2.14: of all fair gains of short programmes none is greater.
func TestNoFairGainIsGreater(t *testing.T) {
	r := rand.New(rand.NewSource(2016))
	for range 2000 {
		p := programme(r, 1+r.Intn(12), []int64{600, api.MaxSample}[r.Intn(2)])
		ceiling, step := 1+r.Int63n(400), r.Int63n(api.FullGain+1)
		g, e := filter.Gains(p, ceiling, step)
		if e != api.OK || !fair(p, ceiling, step, g) {
			t.Fatalf("the gains %v of %v for %d and %d are not fair: %d", g, p, ceiling, step, e)
		}
		// if a fair gain at i were greater, then the one at i + 1 would be as great as i allows, and so on
		for i := range g {
			if other := forced(g, i, step); fair(p, ceiling, step, other) {
				t.Fatalf("%v are fair too for %v, %d and %d, and greater at %d than %v", other, p, ceiling, step, i, g)
			}
		}
	}
}

// forced returns the least gains that are at most a step apart from each other, one greater than g at i, and nowhere else greater than they must be for that.
func forced(g []int64, i int, step int64) []int64 {
	other := slices.Clone(g)
	for t := range other {
		other[t] = max(0, g[i]+1-step*amount(int64(t-i)))
	}
	return other
}

// P2.14
func TestLimitedProgrammes(t *testing.T) {
	r := rand.New(rand.NewSource(2017))
	for range 1500 {
		p := programme(r, 1+r.Intn(15), []int64{600, api.MaxSample}[r.Intn(2)])
		ceiling, step := 1+r.Int63n(700), r.Int63n(api.FullGain+1)
		q, e := filter.Limit(p, ceiling, step)
		if e != api.OK || len(q) != len(p) {
			t.Fatalf("%v, %d", q, e)
		}
		for i, s := range q {
			if amount(s.L) > ceiling || amount(s.R) > ceiling {
				t.Fatalf("%v of %v is louder than %d", s, p[i], ceiling)
			}
			if amount(p[i].L) >= amount(p[i].R) && amount(s.L) < amount(s.R) || amount(p[i].L) <= amount(p[i].R) && amount(s.L) > amount(s.R) {
				t.Fatalf("%v of %v has changed places", s, p[i])
			}
		}
	}
}

// P2.15
func TestLessLimited(t *testing.T) {
	r := rand.New(rand.NewSource(2018))
	for range 1500 {
		p := programme(r, 1+r.Intn(15), 600)
		ceiling, step := 1+r.Int63n(700), r.Int63n(api.FullGain+1)
		g, e := filter.Gains(p, ceiling, step)
		if e != api.OK {
			t.Fatal(e)
		}
		higher, e1 := filter.Gains(p, ceiling+r.Int63n(200), step)
		wider, e2 := filter.Gains(p, ceiling, min(api.FullGain, step+r.Int63n(100)))
		if e1 != api.OK || e2 != api.OK || len(higher) != len(g) || len(wider) != len(g) {
			t.Fatal(e1, e2)
		}
		for i := range g {
			if higher[i] < g[i] || wider[i] < g[i] {
				t.Fatalf("%v of %v for %d and %d; with a greater ceiling %v, with a greater step %v", g, p, ceiling, step, higher, wider)
			}
		}
		needs, e1 := filter.Needs(p, ceiling)
		full, e2 := filter.Gains(p, ceiling, api.FullGain)
		if e1 != api.OK || e2 != api.OK || !slices.Equal(needs, full) {
			t.Fatalf("with a full step: %v, %d, not %v, %d", full, e2, needs, e1)
		}
		if q, e := filter.Limit(p, 600, step); e != api.OK || !slices.Equal(q, p) {
			t.Fatalf("%v, that is not too loud, has become %v, %d", p, q, e)
		}
	}
}

// R5: no argument is changed, and no result is one.
func TestMemory(t *testing.T) {
	c, x := curve(t, "shellac"), []int64{9, -4, 100, 0, 7, 7, 7, 7, 7, 7, 7, 7}
	p := []api.Sample{{L: 50}, {L: 400, R: -100}, {}}
	cWas, xWas, pWas := copyCurve(c), slices.Clone(x), slices.Clone(p)
	l := []api.Curve{c, curve(t, "warm")}
	lWas := copyCurves(l)
	var results []int64
	keep := func(y []int64, e api.Errno) {
		if e != api.OK {
			t.Error(e)
		}
		for i := range y {
			y[i]++
		}
		results = append(results, y...)
	}
	samples := func(q []api.Sample, e api.Errno) {
		for i := range q {
			q[i].L++
			keep([]int64{q[i].R}, e)
		}
	}
	for range 2 {
		results = nil
		keep(filter.Apply(c, x))
		keep(filter.Undo(c, x))
		keep(filter.ApplyAll(l, x))
		keep(filter.UndoAll(l, x))
		keep(filter.Needs(p, 100))
		keep(filter.Gains(p, 100, 256))
		samples(filter.Narrow(c, p))
		samples(filter.Widen(c, p))
		samples(filter.Limit(p, 1000, 256))
		m, d, e := filter.Split(p)
		samples(filter.Join(m, d))
		keep(m, e)
		keep(d, e)
		if _, e := filter.Match(l, x, x); e != api.ErrNone {
			t.Error(e)
		}
		if i, e := filter.CheckGains(p, 100, 256, []int64{0, 1, 2}); i != 3 || e != api.OK {
			t.Error(i, e)
		}
	}
	if !sameCurve(c, cWas) || !slices.Equal(x, xWas) || !slices.Equal(p, pWas) || !slices.EqualFunc(l, lWas, sameCurve) {
		t.Errorf("an argument has changed: %v, %v, %v, %v", c, x, p, l)
	}
}

// R10: equal calls return equal results.
func TestAgain(t *testing.T) {
	r := rand.New(rand.NewSource(10))
	c, x, p := tameCurve(r), signal(r, 50, 1000), programme(r, 50, 1000)
	for range 3 {
		a, e1 := filter.Apply(c, x)
		b, e2 := filter.Apply(c, x)
		if e1 != e2 || !slices.Equal(a, b) {
			t.Errorf("Apply: %v, %d and %v, %d", a, e1, b, e2)
		}
		g, e1 := filter.Gains(p, 10, 3)
		h, e2 := filter.Gains(p, 10, 3)
		if e1 != e2 || !slices.Equal(g, h) {
			t.Errorf("Gains: %v, %d and %v, %d", g, e1, h, e2)
		}
	}
}
