package groove_test

import (
	"math"
	"math/big"
	"math/rand"
	"slices"
	"testing"

	"deadwax/api"
	"deadwax/groove"
)

// cutter is the cutter of the chapter's examples.
func cutter() api.Cutter {
	return api.Cutter{Half: 400, Gain: 2000, Thin: 200, Wide: 2000, Slope: 1000, Jerk: 1000, Stylus: 100}
}

// patient is a cutter that allows all.
func patient() api.Cutter {
	return api.Cutter{Half: 400, Gain: 2000, Wide: api.MaxWide, Slope: api.MaxSlope, Jerk: api.MaxJerk}
}

func cut(t *testing.T, c api.Cutter, s ...api.Sample) []api.Point {
	t.Helper()
	l, e := groove.Cut(c, s)
	if e != api.OK || len(l) != len(s) {
		t.Fatalf("Cut of %v by %v: %v, %d", s, c, l, e)
	}
	return l
}

func product(l ...int64) *big.Int {
	p := big.NewInt(1)
	for _, x := range l {
		p.Mul(p, big.NewInt(x))
	}
	return p
}

func amount(x int64) int64 {
	if x < 0 {
		return -x
	}
	return x
}

// edges are the two edges of a point.
func edges(p api.Point) [2]int64 { return [2]int64{p.In, p.Out} }

// wantedArc follows the definition of the chapter, in numbers without limits.
func wantedArc(r, per int64) *big.Int {
	up, down := product(710, r, 710, r), product(113, per, 113, per)
	return up.Div(up, down)
}

// breaks follows the definition of the chapter, rule by rule, in numbers without limits.
func breaks(c api.Cutter, l []api.Point, r, per int64, i, rule int) bool {
	width := l[i].Out - l[i].In
	inside := i >= 1 && i < len(l)-1
	for k := range 2 {
		switch {
		case rule == api.RuleThin && width < c.Thin:
			return true
		case rule == api.RuleWide && width > c.Wide:
			return true
		case rule == api.RuleSlope && i >= 1:
			change := amount(edges(l[i])[k] - edges(l[i-1])[k])
			if product(113000, per, change).Cmp(product(710, r, c.Slope)) > 0 {
				return true
			}
		case (rule == api.RuleJerk || rule == api.RuleBend) && inside:
			bend := amount(edges(l[i-1])[k] + edges(l[i+1])[k] - 2*edges(l[i])[k])
			if rule == api.RuleJerk && bend > c.Jerk {
				return true
			}
			if rule == api.RuleBend && product(bend, c.Stylus).Cmp(wantedArc(r, per)) > 0 {
				return true
			}
		}
	}
	return false
}

// wantedRule returns the least rule that a groove breaks at an index, 0 if there is none.
func wantedRule(c api.Cutter, l []api.Point, r, per int64, i int) int {
	for rule := api.RuleThin; rule <= api.RuleBend; rule++ {
		if breaks(c, l, r, per, i, rule) {
			return rule
		}
	}
	return 0
}

func wantedFault(c api.Cutter, l []api.Point, r, per int64) (int, int, api.Errno) {
	for i := range l {
		if rule := wantedRule(c, l, r, per, i); rule != 0 {
			return i, rule, api.OK
		}
	}
	return 0, 0, api.ErrNone
}

func faultless(c api.Cutter, l []api.Point, r, per int64) bool {
	_, _, e := wantedFault(c, l, r, per)
	return e == api.ErrNone
}

// wantedWall follows the definition of the chapter, in numbers without limits.
func wantedWall(c api.Cutter, s api.Sample) api.Point {
	left, right := product(s.L, c.Gain), product(s.R, c.Gain)
	thousand := big.NewInt(1000)
	left.Quo(left, thousand) // Quo rounds toward 0
	right.Quo(right, thousand)
	return api.Point{In: right.Int64() - c.Half, Out: left.Int64() + c.Half}
}

// wantedLoudest follows the definition of the chapter, step by step; below 0 is an error.
func wantedLoudest(c api.Cutter, s []api.Sample, r, per int64) int {
	for j := int64(0); j <= api.MaxStep; j++ {
		var l []api.Point
		for _, x := range s {
			y := api.Sample{L: x.L * 50 * j / 1000, R: x.R * 50 * j / 1000}
			if amount(y.L) > api.MaxSample || amount(y.R) > api.MaxSample {
				return int(j) - 1
			}
			l = append(l, wantedWall(c, y))
		}
		if !faultless(c, l, r, per) {
			return int(j) - 1
		}
	}
	return api.MaxStep
}

// pick returns one of some numbers.
func pick(r *rand.Rand, l ...int64) int64 { return l[r.Intn(len(l))] }

// upTo returns a number from least to most, often near one of both.
func upTo(r *rand.Rand, least, most int64) int64 {
	switch r.Intn(5) {
	case 0:
		return least
	case 1:
		return most
	case 2:
		return least + r.Int63n(min(most-least, 20)+1)
	}
	return least + r.Int63n(most-least+1)
}

// anyCutter returns a valid cutter, of which some allow nearly all and some nearly nothing.
func anyCutter(r *rand.Rand) api.Cutter {
	wide := upTo(r, 0, api.MaxWide)
	return api.Cutter{
		Half: upTo(r, 1, api.MaxHalf), Gain: upTo(r, 0, api.MaxGain),
		Thin: upTo(r, 0, wide), Wide: wide,
		Slope: upTo(r, 0, api.MaxSlope), Jerk: upTo(r, 0, api.MaxJerk), Stylus: upTo(r, 0, api.MaxStylus),
	}
}

// mildCutter returns a cutter to which grooves of small numbers are possible at some radii.
func mildCutter(r *rand.Rand) api.Cutter {
	return api.Cutter{
		Half: 1 + r.Int63n(60), Gain: r.Int63n(4000),
		Thin: r.Int63n(10), Wide: 60 + r.Int63n(200),
		Slope: pick(r, 0, 1, 200, 1000, api.MaxSlope), Jerk: 20 + r.Int63n(200), Stylus: pick(r, 0, 1, 10, 100, api.MaxStylus),
	}
}

// bumpy returns a groove of about the width 60, whose edges are up to most from where they would be.
func bumpy(r *rand.Rand, n int, most int64) []api.Point {
	l := make([]api.Point, n)
	for i := range l {
		l[i] = api.Point{In: r.Int63n(2*most+1) - most - 30, Out: r.Int63n(2*most+1) - most + 30}
	}
	return l
}

// wild returns a groove with edges of any size.
func wild(r *rand.Rand, n int) []api.Point {
	l := make([]api.Point, n)
	for i := range l {
		l[i] = api.Point{In: upTo(r, -api.MaxEdge, api.MaxEdge), Out: upTo(r, -api.MaxEdge, api.MaxEdge)}
	}
	return l
}

func programme(r *rand.Rand, n int, most int64) []api.Sample {
	s := make([]api.Sample, n)
	for i := range s {
		s[i] = api.Sample{L: upTo(r, -most, most), R: upTo(r, -most, most)}
	}
	return s
}

// beyond are numbers that are not from least to most.
func beyond(least, most int64) []int64 {
	return []int64{least - 1, most + 1, least - 1<<40, most + 1<<40, math.MinInt64, math.MinInt64 + 1, math.MaxInt64, math.MaxInt64 - 1}
}

// invalidCutters are cutters each of which is wrong in one field.
func invalidCutters() []api.Cutter {
	var l []api.Cutter
	wrong := func(least, most int64, set func(*api.Cutter, int64)) {
		for _, x := range beyond(least, most) {
			c := cutter()
			set(&c, x)
			l = append(l, c)
		}
	}
	wrong(1, api.MaxHalf, func(c *api.Cutter, x int64) { c.Half = x })
	wrong(0, api.MaxGain, func(c *api.Cutter, x int64) { c.Gain = x })
	wrong(0, 2000, func(c *api.Cutter, x int64) { c.Thin = x })
	wrong(200, api.MaxWide, func(c *api.Cutter, x int64) { c.Wide = x })
	wrong(0, api.MaxWide, func(c *api.Cutter, x int64) { c.Thin, c.Wide = x, x })
	wrong(0, api.MaxSlope, func(c *api.Cutter, x int64) { c.Slope = x })
	wrong(0, api.MaxJerk, func(c *api.Cutter, x int64) { c.Jerk = x })
	wrong(0, api.MaxStylus, func(c *api.Cutter, x int64) { c.Stylus = x })
	return append(l, api.Cutter{})
}

// loudSamples are samples that are too loud in a channel.
func loudSamples() []api.Sample {
	var l []api.Sample
	for _, x := range beyond(-api.MaxSample, api.MaxSample) {
		l = append(l, api.Sample{L: x}, api.Sample{R: x}, api.Sample{L: x, R: x})
	}
	return l
}

// farPoints are points with an edge too far out or in.
func farPoints() []api.Point {
	var l []api.Point
	for _, x := range beyond(-api.MaxEdge, api.MaxEdge) {
		l = append(l, api.Point{In: x}, api.Point{Out: x}, api.Point{In: x, Out: x})
	}
	return l
}

// tooManyPoints are 4,097 points that are too far out.
func tooManyPoints() []api.Point {
	return slices.Repeat([]api.Point{{Out: api.MaxEdge + 1}}, api.MaxLong+1)
}

// tooManySamples are 4,097 samples that are too loud.
func tooManySamples() []api.Sample {
	return slices.Repeat([]api.Sample{{L: api.MaxSample + 1}}, api.MaxLong+1)
}
