package lathe_test

import (
	"math"
	"math/rand"
	"slices"
	"testing"

	"deadwax/api"
	"deadwax/lathe"
)

// blank is the blank of the chapter's examples.
func blank() api.Blank {
	return api.Blank{Per: 2, Rim: 1000, Core: 100, Land: 10, Slow: 1, Fast: 100}
}

// points is the groove of the chapter's examples.
func points() []api.Point {
	a, b := api.Point{In: -20, Out: 20}, api.Point{In: -20, Out: 50}
	return []api.Point{a, a, a, b, a}
}

// radii is its outermost cut.
func radii() []int64 { return []int64{980, 979, 930, 899, 880} }

func outermost(t *testing.T, b api.Blank, l []api.Point) []int64 {
	t.Helper()
	r, e := lathe.Outermost(b, l)
	if e != api.OK || len(r) != len(l) {
		t.Fatalf("Outermost of %v on %v: %v, %d", l, b, r, e)
	}
	return r
}

func fits(t *testing.T, b api.Blank, l []api.Point) int {
	t.Helper()
	n, e := lathe.Fits(b, l)
	if e != api.OK || n < 0 || n > len(l) {
		t.Fatalf("Fits of %v on %v: %d, %d", l, b, n, e)
	}
	return n
}

// keeps follows the chapter's table of rules.
func keeps(b api.Blank, l []api.Point, r []int64, i, rule int) bool {
	per := int(b.Per)
	switch {
	case rule == api.CutRim:
		return r[i]+l[i].Out <= b.Rim
	case rule == api.CutCore:
		return r[i]+l[i].In >= b.Core
	case rule == api.CutSlow && i >= 1:
		return r[i-1]-r[i] >= b.Slow
	case rule == api.CutFast && i >= 1:
		return r[i-1]-r[i] <= b.Fast
	case rule == api.CutLand && i >= per:
		return (r[i-per]+l[i-per].In)-(r[i]+l[i].Out) >= b.Land
	}
	return true
}

// wantedBroken returns the first sample at which a cut does not keep a rule, and the least such rule there, 0 if it keeps all.
func wantedBroken(b api.Blank, l []api.Point, r []int64) (int, int) {
	for i := range l {
		for rule := api.CutRim; rule <= api.CutLand; rule++ {
			if !keeps(b, l, r, i, rule) {
				return i, rule
			}
		}
	}
	return 0, 0
}

// wantedOutermost moves each sample inwards, by one unit at a time, as long as a rule asks for it, and returns nothing if it comes beyond the core.
func wantedOutermost(b api.Blank, l []api.Point) ([]int64, bool) {
	r := make([]int64, len(l))
	for i := range r {
		r[i] = b.Rim - l[i].Out
	}
	for moved := true; moved; {
		moved = false
		for i := range l {
			inwards := !keeps(b, l, r, i, api.CutSlow) || !keeps(b, l, r, i, api.CutLand) || i+1 < len(l) && !keeps(b, l, r, i+1, api.CutFast)
			if inwards {
				r[i]--
				moved = true
			}
			if !keeps(b, l, r, i, api.CutCore) {
				return nil, false
			}
		}
	}
	return r, true
}

// wantedFits tries all beginnings.
func wantedFits(b api.Blank, l []api.Point) int {
	for n := len(l); ; n-- {
		if _, ok := wantedOutermost(b, l[:n]); ok {
			return n
		}
	}
}

// nowhere is where a step begins or ends that has none in the chapter's table.
const nowhere = -1

// says follows the chapter's table of steps: from where to where, and the weight; false if the sample is not in its range.
func says(b api.Blank, l []api.Point, x api.Step) (from, to int, weight int64, ok bool) {
	i, per := x.At, int(b.Per)
	least, known := map[int]int{api.CutRim: 0, api.CutCore: 0, api.CutSlow: 1, api.CutFast: 1, api.CutLand: per}[x.Rule]
	if !known || i < least || i >= len(l) {
		return 0, 0, 0, false
	}
	switch x.Rule {
	case api.CutRim:
		return nowhere, i, b.Rim - l[i].Out, true
	case api.CutCore:
		return i, nowhere, l[i].In - b.Core, true
	case api.CutSlow:
		return i - 1, i, -b.Slow, true
	case api.CutFast:
		return i, i - 1, b.Fast, true
	}
	return i - per, i, l[i-per].In - l[i].Out - b.Land, true
}

// wantedProof follows the chapter's definition of a proof.
func wantedProof(b api.Blank, l []api.Point, p []api.Step) bool {
	if len(p) < 1 || len(p) > api.MaxSteps {
		return false
	}
	sum := int64(0)
	var from, to []int
	rims, cores := 0, 0
	for _, x := range p {
		f, t, weight, ok := says(b, l, x)
		if !ok {
			return false
		}
		from, to, sum = append(from, f), append(to, t), sum+weight
		if x.Rule == api.CutRim {
			rims++
		}
		if x.Rule == api.CutCore {
			cores++
		}
	}
	last := len(p) - 1
	if !slices.Equal(from[1:], to[:last]) || sum >= 0 {
		return false
	}
	path := p[0].Rule == api.CutRim && p[last].Rule == api.CutCore && rims == 1 && cores == 1
	circle := rims == 0 && cores == 0 && to[last] == from[0]
	return path || circle
}

// upTo returns a number from least to most, often one of both.
func upTo(r *rand.Rand, least, most int64) int64 {
	switch r.Intn(5) {
	case 0:
		return least
	case 1:
		return most
	}
	return least + r.Int63n(most-least+1)
}

// someBlank returns a blank of small numbers; turns are from 1 to 5 samples.
func someBlank(r *rand.Rand) api.Blank {
	b := api.Blank{Per: 1 + r.Int63n(5), Rim: 20 + r.Int63n(200), Land: r.Int63n(4), Slow: r.Int63n(3)}
	b.Core = r.Int63n(b.Rim)
	b.Fast = b.Slow + r.Int63n(15)
	return b
}

// someGroove returns a groove that is mostly wide and sometimes turned round, with peaks.
func someGroove(r *rand.Rand, n int) []api.Point {
	l := make([]api.Point, n)
	for i := range l {
		l[i] = api.Point{In: r.Int63n(8) - 6, Out: r.Int63n(8) - 1}
		if r.Intn(8) == 0 {
			l[i].Out += r.Int63n(25)
		}
		if r.Intn(8) == 0 {
			l[i].In -= r.Int63n(25)
		}
	}
	return l
}

// wild returns a groove with edges of any size.
func wild(r *rand.Rand, n int) []api.Point {
	l := make([]api.Point, n)
	for i := range l {
		l[i] = api.Point{In: upTo(r, -api.MaxEdge, api.MaxEdge), Out: upTo(r, -api.MaxEdge, api.MaxEdge)}
	}
	return l
}

// beyond are numbers that are not from least to most.
func beyond(least, most int64) []int64 {
	return []int64{least - 1, most + 1, least - 1<<40, most + 1<<40, math.MinInt64, math.MinInt64 + 1, math.MaxInt64, math.MaxInt64 - 1}
}

// invalidBlanks are blanks each of which is wrong in one field.
func invalidBlanks() []api.Blank {
	var l []api.Blank
	wrong := func(least, most int64, set func(*api.Blank, int64)) {
		for _, x := range beyond(least, most) {
			b := blank()
			set(&b, x)
			l = append(l, b)
		}
	}
	wrong(1, api.MaxPer, func(b *api.Blank, x int64) { b.Per = x })
	wrong(100, api.MaxRadius, func(b *api.Blank, x int64) { b.Rim = x })
	wrong(0, 1000, func(b *api.Blank, x int64) { b.Core = x })
	wrong(0, api.MaxRadius, func(b *api.Blank, x int64) { b.Rim, b.Core = x, x })
	wrong(0, api.MaxLand, func(b *api.Blank, x int64) { b.Land = x })
	wrong(0, 100, func(b *api.Blank, x int64) { b.Slow = x })
	wrong(1, api.MaxInward, func(b *api.Blank, x int64) { b.Fast = x })
	wrong(0, api.MaxInward, func(b *api.Blank, x int64) { b.Slow, b.Fast = x, x })
	return append(l, api.Blank{})
}

// farPoints are points with an edge too far out or in.
func farPoints() []api.Point {
	var l []api.Point
	for _, x := range beyond(-api.MaxEdge, api.MaxEdge) {
		l = append(l, api.Point{In: x}, api.Point{Out: x}, api.Point{In: x, Out: x})
	}
	return l
}

// tooManyPoints are 4,097 points that are too far out.
func tooManyPoints() []api.Point {
	return slices.Repeat([]api.Point{{Out: api.MaxEdge + 1}}, api.MaxLong+1)
}
