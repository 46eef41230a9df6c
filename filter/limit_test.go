package filter_test

import (
	"math"
	"math/rand"
	"slices"
	"testing"

	"deadwax/api"
	"deadwax/filter"
)

// exampleProgramme is the programme of the chapter's examples of limiters.
func exampleProgramme() []api.Sample {
	return []api.Sample{{L: 50}, {L: 400, R: -100}, {}}
}

// P2.7, P2.8
func TestLimitExamples(t *testing.T) {
	p := exampleProgramme()
	if g, e := filter.Needs(p, 100); e != api.OK || !slices.Equal(g, []int64{256, 64, 256}) {
		t.Errorf("Needs: %v, %d", g, e)
	}
	if g, e := filter.Gains(p, 100, 50); e != api.OK || !slices.Equal(g, []int64{114, 64, 114}) {
		t.Errorf("Gains: %v, %d", g, e)
	}
	if q, e := filter.Limit(p, 100, 50); e != api.OK || !slices.Equal(q, []api.Sample{{L: 22}, {L: 100, R: -25}, {}}) {
		t.Errorf("Limit: %v, %d", q, e)
	}
	if i, e := filter.CheckGains(p, 100, 50, []int64{114, 64, 115}); i != 2 || e != api.ErrRule {
		t.Errorf("CheckGains: %d, %d", i, e)
	}
}

// P2.7
func TestNeedsByDefinition(t *testing.T) {
	r := rand.New(rand.NewSource(27))
	ceilings := []int64{1, 2, 3, 127, 128, 129, 1000, 20000, api.MaxSample - 1, api.MaxSample}
	for range 300 {
		p := programme(r, 4, []int64{5, 600, api.MaxSample}[r.Intn(3)])
		for _, ceiling := range append(ceilings, 1+r.Int63n(api.MaxSample)) {
			g, e := filter.Needs(p, ceiling)
			if e != api.OK || len(g) != len(p) {
				t.Fatalf("%v, %d", g, e)
			}
			for i, s := range p {
				if g[i] != wantedNeed(s, ceiling) {
					t.Errorf("the need of %v for %d: %d, not %d", s, ceiling, g[i], wantedNeed(s, ceiling))
				}
			}
		}
	}
}

// P2.7: amounts near the ceiling, and needs near 0.
func TestNeedsAtTheirLimits(t *testing.T) {
	for _, c := range []struct {
		s       api.Sample
		ceiling int64
		want    int64
	}{
		{api.Sample{L: 100}, 100, 256},
		{api.Sample{L: -100, R: 100}, 100, 256},
		{api.Sample{L: 101}, 100, 255},
		{api.Sample{R: -101}, 100, 255},
		{api.Sample{L: 512}, 1, 0},
		{api.Sample{L: 511}, 1, 1},
		{api.Sample{L: api.MaxSample}, 1, 0},
		{api.Sample{L: api.MaxSample}, 126, 0},
		{api.Sample{L: api.MaxSample}, 127, 1},
		{api.Sample{R: -api.MaxSample}, api.MaxSample, 256},
		{api.Sample{R: -api.MaxSample}, api.MaxSample - 1, 255},
		{api.Sample{L: 1, R: 3}, 1, 170},
		{api.Sample{L: -3, R: 1}, 1, 170},
	} {
		if g, e := filter.Needs([]api.Sample{c.s}, c.ceiling); e != api.OK || !slices.Equal(g, []int64{c.want}) {
			t.Errorf("the need of %v for %d: %v, %d, not %d", c.s, c.ceiling, g, e, c.want)
		}
	}
}

// P2.7, P2.8
func TestGainsByDefinition(t *testing.T) {
	r := rand.New(rand.NewSource(28))
	steps := []int64{0, 1, 7, 60, api.FullGain - 1, api.FullGain}
	for range 1500 {
		p := programme(r, r.Intn(15), []int64{5, 600, api.MaxSample}[r.Intn(3)])
		ceiling := []int64{1, 5, 300, api.MaxSample, 1 + r.Int63n(api.MaxSample)}[r.Intn(5)]
		step := steps[r.Intn(len(steps))]
		want := wantedGains(p, ceiling, step)
		g, e := filter.Gains(p, ceiling, step)
		if e != api.OK || !slices.Equal(g, want) {
			t.Fatalf("Gains of %v for %d and %d: %v, %d, not %v", p, ceiling, step, g, e, want)
		}
		q, e := filter.Limit(p, ceiling, step)
		if e != api.OK || len(q) != len(p) {
			t.Fatalf("Limit: %v, %d", q, e)
		}
		for i, s := range p {
			if q[i] != (api.Sample{L: s.L * want[i] / api.FullGain, R: s.R * want[i] / api.FullGain}) {
				t.Fatalf("Limit of %v for %d and %d: %v", p, ceiling, step, q)
			}
		}
		if n, e := filter.CheckGains(p, ceiling, step, g); n != len(p) || e != api.OK {
			t.Fatalf("CheckGains of %v for %v, %d and %d: %d, %d", g, p, ceiling, step, n, e)
		}
	}
}

// wantedCheck follows P2.8, gain by gain.
func wantedCheck(p []api.Sample, ceiling, step int64, gains []int64) (int, api.Errno) {
	for i, g := range gains {
		if g < 0 || g > api.FullGain {
			return i, api.ErrRange
		}
		if g > wantedNeed(p[i], ceiling) {
			return i, api.ErrLimit
		}
		if i > 0 && amount(g-gains[i-1]) > step {
			return i, api.ErrRule
		}
	}
	return len(gains), api.OK
}

// P2.8
func TestCheckGainsByDefinition(t *testing.T) {
	r := rand.New(rand.NewSource(29))
	var seen [api.ErrLate + 1]int
	for range 4000 {
		p := programme(r, 1+r.Intn(6), 300)
		ceiling, step := 1+r.Int63n(300), r.Int63n(40)
		gains, e := filter.Gains(p, ceiling, step)
		if e != api.OK {
			t.Fatal(e)
		}
		for range r.Intn(3) {
			gains[r.Intn(len(gains))] += r.Int63n(80) - 40
		}
		wantI, wantE := wantedCheck(p, ceiling, step, gains)
		seen[wantE]++
		if i, e := filter.CheckGains(p, ceiling, step, gains); i != wantI || e != wantE {
			t.Fatalf("CheckGains of %v for %v, %d and %d: %d, %d, not %d, %d", gains, p, ceiling, step, i, e, wantI, wantE)
		}
		if fair(p, ceiling, step, gains) != (wantE == api.OK) {
			t.Fatalf("%v: %d", gains, wantE)
		}
	}
	for _, e := range []api.Errno{api.OK, api.ErrRange, api.ErrLimit, api.ErrRule} {
		if seen[e] < 100 {
			t.Errorf("the error %d came only %d times", e, seen[e])
		}
	}
}

// P2.8
func TestCheckGains(t *testing.T) {
	p := exampleProgramme()
	for _, c := range []struct {
		name  string
		gains []int64
		i     int
		e     api.Errno
	}{
		{"the greatest", []int64{114, 64, 114}, 3, api.OK},
		{"zeros", []int64{0, 0, 0}, 3, api.OK},
		{"one below 0", []int64{0, -1, 0}, 1, api.ErrRange},
		{"one above 256", []int64{114, 64, 257}, 2, api.ErrRange},
		{"one above the need", []int64{114, 65, 300}, 1, api.ErrLimit},
		{"at the need", []int64{256, 64, 114}, 1, api.ErrRule},
		{"a step down", []int64{51, 0, 0}, 1, api.ErrRule},
		{"a step up", []int64{0, 51, 0}, 1, api.ErrRule},
		{"a step that is just possible", []int64{50, 0, 50}, 3, api.OK},
		{"above the need, and a step too great", []int64{0, 65, 0}, 1, api.ErrLimit},
		{"out of range, and all else", []int64{0, 400, 0}, 1, api.ErrRange},
		{"the greatest int64", []int64{0, 0, math.MaxInt64}, 2, api.ErrRange},
		{"the least int64", []int64{0, math.MinInt64, 500}, 1, api.ErrRange},
		{"the first one, of the greatest", []int64{math.MinInt64, math.MaxInt64, 0}, 0, api.ErrRange},
		{"a rule before a range", []int64{51, 0, -1}, 1, api.ErrRule},
		{"none", nil, 0, api.ErrEqual},
		{"one too few", []int64{-1, 64}, 0, api.ErrEqual},
		{"one too many", []int64{114, 64, 114, -1}, 0, api.ErrEqual},
	} {
		if i, e := filter.CheckGains(p, 100, 50, c.gains); i != c.i || e != c.e {
			t.Errorf("%s: %d, %d, not %d, %d", c.name, i, e, c.i, c.e)
		}
	}
	for _, empty := range [][]int64{nil, {}} {
		if i, e := filter.CheckGains(nil, 1, 0, empty); i != 0 || e != api.OK {
			t.Errorf("nothing: %d, %d", i, e)
		}
	}
}

// limiters are the functions with a ceiling and a step; Needs has none.
func limiters() map[string]func(p []api.Sample, ceiling, step int64) (int, api.Errno) {
	return map[string]func(p []api.Sample, ceiling, step int64) (int, api.Errno){
		"Needs": func(p []api.Sample, ceiling, step int64) (int, api.Errno) {
			g, e := filter.Needs(p, ceiling)
			return len(g), e
		},
		"Gains": func(p []api.Sample, ceiling, step int64) (int, api.Errno) {
			g, e := filter.Gains(p, ceiling, step)
			return len(g), e
		},
		"Limit": func(p []api.Sample, ceiling, step int64) (int, api.Errno) {
			q, e := filter.Limit(p, ceiling, step)
			return len(q), e
		},
		"CheckGains": func(p []api.Sample, ceiling, step int64) (int, api.Errno) {
			if step < 0 || step > api.FullGain || ceiling < 1 || ceiling > api.MaxSample {
				return filter.CheckGains(p, ceiling, step, []int64{-1}) // not as many gains as samples
			}
			return filter.CheckGains(p, ceiling, step, make([]int64, len(p)))
		},
	}
}

// P2.7, P2.8
func TestLimiterErrors(t *testing.T) {
	two := []api.Sample{{L: api.MaxSample}, {R: -api.MaxSample}}
	for name, f := range limiters() {
		for _, ceiling := range append(beyond(api.MaxSample), 0, -1, -api.MaxSample) {
			for _, step := range []int64{0, -1, api.FullGain + 1} {
				if n, e := f(two, ceiling, step); n != 0 || e != api.ErrRange {
					t.Errorf("%s, the ceiling %d: %d, %d", name, ceiling, n, e)
				}
			}
			if n, e := f(tooManySamples(), ceiling, -1); n != 0 || e != api.ErrMany {
				t.Errorf("%s, a long programme and the ceiling %d: %d, %d", name, ceiling, n, e)
			}
		}
		for _, step := range append(beyond(api.FullGain), -1, -api.FullGain) {
			if n, e := f(two, 1, step); name != "Needs" && (n != 0 || e != api.ErrRange) {
				t.Errorf("%s, the step %d: %d, %d", name, step, n, e)
			}
			if n, e := f(make([]api.Sample, api.MaxLong+1), 1, step); n != 0 || e != api.ErrMany {
				t.Errorf("%s, a long programme and the step %d: %d, %d", name, step, n, e)
			}
		}
		for _, s := range loudSamples() {
			if n, e := f([]api.Sample{{}, s}, 1, 0); n != 0 || e != api.ErrRange {
				t.Errorf("%s, %v: %d, %d", name, s, n, e)
			}
		}
		for _, ceiling := range []int64{1, api.MaxSample} {
			for _, step := range []int64{0, api.FullGain} {
				if n, e := f(two, ceiling, step); n != 2 || e != api.OK {
					t.Errorf("%s for %d and %d: %d, %d", name, ceiling, step, n, e)
				}
			}
		}
		for _, p := range [][]api.Sample{nil, {}, slices.Repeat(two, api.MaxLong/2)} {
			if n, e := f(p, 1, 0); n != len(p) || e != api.OK {
				t.Errorf("%s, %d samples: %d, %d", name, len(p), n, e)
			}
		}
	}
}

// P2.7: a single loud sample is heard as far as its step reaches, to both sides.
func TestGainsReach(t *testing.T) {
	p := make([]api.Sample, api.MaxLong)
	p[2000] = api.Sample{L: api.MaxSample}
	g, e := filter.Gains(p, 1, 1)
	if e != api.OK || len(g) != len(p) {
		t.Fatal(len(g), e)
	}
	for i, x := range g {
		if want := min(api.FullGain, amount(int64(i-2000))); x != want {
			t.Errorf("the gain at %d: %d, not %d", i, x, want)
		}
	}
	g, e = filter.Gains(p, 1, 0)
	if e != api.OK || !slices.Equal(g, make([]int64, len(p))) {
		t.Errorf("with a step of 0: %d", e)
	}
}
