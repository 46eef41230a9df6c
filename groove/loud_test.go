package groove_test

import (
	"math/rand"
	"slices"
	"testing"

	"deadwax/api"
	"deadwax/groove"
)

// P3.7: the chapter's examples.
func TestLoudestExamples(t *testing.T) {
	if k, e := groove.Loudest(cutter(), []api.Sample{{L: 100, R: 100}, {L: 100, R: 100}}, 0, 1000); k != 40 || e != api.OK {
		t.Errorf("two equal ones: %d, %d", k, e)
	}
	if k, e := groove.Loudest(cutter(), []api.Sample{{L: 300, R: -300}}, 0, 1000); k != 20 || e != api.OK {
		t.Errorf("an opposite one: %d, %d", k, e)
	}
}

// P3.7
func TestLoudest(t *testing.T) {
	still := api.Cutter{Half: 1, Wide: 2}
	thin := api.Cutter{Half: 400, Gain: 1000, Thin: 800, Wide: 2000}
	wide := api.Cutter{Half: 400, Gain: 1000, Wide: 800}
	slope := api.Cutter{Half: 400, Gain: 1000, Wide: 2000, Slope: 1000, Jerk: 2000}
	for name, x := range map[string]struct {
		c      api.Cutter
		s      []api.Sample
		r, per int64
		want   int
	}{
		"no samples":                   {cutter(), nil, 0, 1, 40},
		"none, where silence is thin":  {api.Cutter{Half: 1, Thin: 3, Wide: 3}, []api.Sample{}, 0, 1, 40},
		"silence":                      {still, []api.Sample{{}, {}}, 0, 1, 40},
		"the loudest sample":           {still, []api.Sample{{L: api.MaxSample}}, 0, 1, 20},
		"the loudest one below 0":      {still, []api.Sample{{}, {R: -api.MaxSample}}, 0, 1, 20},
		"half as loud, and a little":   {still, []api.Sample{{L: 16384}}, 0, 1, 39},
		"half as loud below 0":         {still, []api.Sample{{R: -16384}}, 0, 1, 39},
		"half as loud":                 {still, []api.Sample{{L: 16383, R: -16383}}, 0, 1, 40},
		"one step from the loudest":    {still, []api.Sample{{L: 31208}}, 0, 1, 20},
		"one step too loud":            {still, []api.Sample{{L: 31207}}, 0, 1, 21},
		"too wide at the step 1":       {wide, []api.Sample{{L: 20}}, 0, 1, 0},
		"rounded toward 0":             {wide, []api.Sample{{L: 19}}, 0, 1, 1},
		"rounded toward 0 below 0":     {wide, []api.Sample{{R: -19}}, 0, 1, 1},
		"too thin":                     {thin, []api.Sample{{L: -10}}, 0, 1, 1},
		"never too wide":               {wide, []api.Sample{{L: -200, R: 200}}, 0, 1, 40},
		"thinner than nothing":         {wide, []api.Sample{{L: -300, R: 300}}, 0, 1, 26},
		"thin for a while":             {thin, []api.Sample{{L: 28, R: 30}}, 0, 1, 1},
		"steep from the step 1 on":     {slope, []api.Sample{{}, {L: 20}}, 0, 710, 0},
		"steep at 113":                 {slope, []api.Sample{{}, {L: 20}}, 113, 710, 1},
		"steep a unit farther in":      {slope, []api.Sample{{}, {L: 20}}, 112, 710, 0},
		"steep at ten units":           {slope, []api.Sample{{}, {R: -40}}, 1130, 710, 5},
		"steep farther out":            {slope, []api.Sample{{}, {R: -40}}, 1130 * 7, 710, 35},
		"not steep":                    {slope, []api.Sample{{}, {R: -40}}, 1130 * 8, 710, 40},
		"one steep sample among many":  {slope, []api.Sample{{}, {}, {}, {L: 40}, {}}, 1130, 710, 5},
		"two equal ones at the rim":    {slope, []api.Sample{{L: 40}, {L: 40}}, api.MaxRadius, 1, 40},
		"4,096 samples, the last loud": {still, append(make([]api.Sample, api.MaxLong-1), api.Sample{L: 20000}), 0, 1, 32},
	} {
		if k, e := groove.Loudest(x.c, x.s, x.r, x.per); k != x.want || e != api.OK {
			t.Errorf("%s: %d, %d, not %d", name, k, e, x.want)
		}
	}
}

// P3.7: silence itself has a fault.
func TestLoudestOfNothing(t *testing.T) {
	for name, c := range map[string]api.Cutter{
		"too thin": {Half: 400, Gain: 1000, Thin: 801, Wide: 2000, Slope: api.MaxSlope, Jerk: 1000},
		"too wide": {Half: 400, Gain: 1000, Wide: 799, Slope: api.MaxSlope, Jerk: 1000},
	} {
		for _, s := range [][]api.Sample{{{}}, {{L: 100, R: -100}}, {{L: -1000, R: 1000}, {}}} {
			if k, e := groove.Loudest(c, s, api.MaxRadius, 1); k != 0 || e != api.ErrLimit {
				t.Errorf("%s, %v: %d, %d", name, s, k, e)
			}
		}
	}
}

// P3.7, P3.13
func TestLoudestByDefinition(t *testing.T) {
	r := rand.New(rand.NewSource(37))
	seen := map[int]int{}
	for i := range 4000 {
		c, radius, per := mildCutter(r), r.Int63n(3000), 1+r.Int63n(300)
		if i%2 == 0 {
			c.Wide = c.Half * 2 * pick(r, 1, 2, 6)
			c.Thin = min(c.Thin, c.Half)
		}
		if i%8 == 0 {
			c, radius, per = anyCutter(r), upTo(r, 0, api.MaxRadius), upTo(r, 1, api.MaxPer)
		}
		s := programme(r, r.Intn(5), pick(r, 2, 20, 60, api.MaxSample))
		want := wantedLoudest(c, s, radius, per)
		seen[want]++
		k, e := groove.Loudest(c, s, radius, per)
		if want < 0 && (k != 0 || e != api.ErrLimit) || want >= 0 && (k != want || e != api.OK) {
			t.Fatalf("%v by %v at %d with %d: %d, %d, not %d", s, c, radius, per, k, e, want)
		}
		if e == api.OK {
			checkLouder(t, c, s, radius, per, k)
		}
	}
	if len(seen) < 30 || seen[-1] < 50 || seen[40] > 3500 {
		t.Errorf("the steps: %v", seen)
	}
}

// checkLouder asks Fault for the steps up to the loudest one, and the next one. (P3.13)
func checkLouder(t *testing.T, c api.Cutter, s []api.Sample, radius, per int64, k int) {
	t.Helper()
	for j := int64(0); j <= int64(min(k+1, api.MaxStep)); j++ {
		scaled := slices.Clone(s)
		for i, x := range scaled {
			scaled[i] = api.Sample{L: x.L * j / 20, R: x.R * j / 20}
		}
		l, e := groove.Cut(c, scaled)
		if e == api.OK {
			_, _, e = groove.Fault(c, l, radius, per)
		}
		if (e == api.ErrNone) != (j <= int64(k)) {
			t.Fatalf("%v by %v at %d with %d, whose loudest step is %d: %d at %d", s, c, radius, per, k, e, j)
		}
	}
}
