package play_test

import (
	"math"
	"math/rand"
	"slices"
	"testing"

	"deadwax/api"
	"deadwax/play"
)

// example is the tip of the chapter's examples.
func example() api.Tip { return tip(0, 2, 10) }

// points is the groove of the chapter's examples.
func points() []api.Point { return groove(-100, 100, -100, 90, -95, 100) }

func ideal() api.Tip { return tip(0) }

func tip(shape ...int64) api.Tip { return api.Tip{Shape: shape} }

// groove returns a groove with these inner and outer edges, in turn.
func groove(edges ...int64) []api.Point {
	var l []api.Point
	for i := 0; i+1 < len(edges); i += 2 {
		l = append(l, api.Point{In: edges[i], Out: edges[i+1]})
	}
	return l
}

func cutter() api.Cutter { return api.Cutter{Half: 100, Gain: 1500, Wide: 1} }

func read(t *testing.T, x api.Tip, l []api.Point) []api.Point {
	t.Helper()
	got, e := play.Read(x, l)
	if e != api.OK || len(got) != len(l) {
		t.Fatalf("Read of %v by %v: %v, %d", l, x, got, e)
	}
	return got
}

func sweep(t *testing.T, x api.Tip, l []api.Point) []api.Point {
	t.Helper()
	got, e := play.Sweep(x, l)
	if e != api.OK || len(got) != len(l) {
		t.Fatalf("Sweep of %v by %v: %v, %d", l, x, got, e)
	}
	return got
}

func hear(t *testing.T, blunt, sharp api.Tip, l []api.Point, wow int64) []api.Heard {
	t.Helper()
	h, e := play.Hear(blunt, sharp, l, wow)
	if e != api.OK || len(h) != len(l) {
		t.Fatalf("Hear of %v by %v and %v with %d: %v, %d", l, blunt, sharp, wow, h, e)
	}
	return h
}

func round(t *testing.T, radius, arc int64, up bool) api.Tip {
	t.Helper()
	x, e := play.Round(radius, arc, up)
	if e != api.OK || play.CheckTip(x) != api.OK {
		t.Fatalf("Round of %d for %d: %v, %d", radius, arc, x, e)
	}
	return x
}

// exact reports whether Miss finds nothing.
func exact(t *testing.T, x api.Tip, l []api.Point) bool {
	t.Helper()
	_, _, e := play.Miss(x, l)
	if e != api.OK && e != api.ErrNone {
		t.Fatalf("Miss of %v by %v: %d", l, x, e)
	}
	return e == api.ErrNone
}

// amount returns the number without its sign.
func amount(x int) int {
	if x < 0 {
		return -x
	}
	return x
}

// wantedRead follows the definition of the chapter.
func wantedRead(x api.Tip, l []api.Point) []api.Point {
	read := slices.Clone(l)
	for t := range l {
		for u := range l {
			if k := amount(u - t); k < len(x.Shape) {
				read[t].Out = min(read[t].Out, l[u].Out+x.Shape[k])
				read[t].In = max(read[t].In, l[u].In-x.Shape[k])
			}
		}
	}
	return read
}

// wantedSweep follows the definition of the chapter.
func wantedSweep(x api.Tip, l []api.Point) []api.Point {
	read := wantedRead(x, l)
	swept := slices.Clone(read)
	for t := range l {
		for u := range l {
			if k := amount(u - t); k < len(x.Shape) {
				swept[t].Out = max(swept[t].Out, read[u].Out-x.Shape[k])
				swept[t].In = min(swept[t].In, read[u].In+x.Shape[k])
			}
		}
	}
	return swept
}

// wantedMiss follows the definition of the chapter.
func wantedMiss(x api.Tip, l []api.Point) (int, int, api.Errno) {
	for t := range l {
		for u := range l {
			k := amount(u - t)
			if k < len(x.Shape) && (l[t].Out > l[u].Out+x.Shape[k] || l[t].In < l[u].In-x.Shape[k]) {
				return t, u, api.OK
			}
		}
	}
	return 0, 0, api.ErrNone
}

// wantedHear follows the definition of the chapter.
func wantedHear(blunt, sharp api.Tip, l []api.Point, wow int64) []api.Heard {
	narrow, wide := wantedRead(blunt, l), wantedRead(sharp, l)
	heard := make([]api.Heard, len(l))
	for t := range l {
		h := api.Heard{In: api.Extent{Lo: math.MaxInt64, Hi: math.MinInt64}, Out: api.Extent{Lo: math.MaxInt64, Hi: math.MinInt64}}
		for u := range l {
			if int64(amount(u-t)) <= wow {
				h.Out.Lo, h.Out.Hi = min(h.Out.Lo, narrow[u].Out), max(h.Out.Hi, wide[u].Out)
				h.In.Lo, h.In.Hi = min(h.In.Lo, wide[u].In), max(h.In.Hi, narrow[u].In)
			}
		}
		heard[t] = h
	}
	return heard
}

// blunter follows the definition of the chapter.
func blunter(x, other api.Tip) bool {
	for k := range other.Shape {
		if k >= len(x.Shape) || other.Shape[k] < x.Shape[k] {
			return false
		}
	}
	return true
}

// inside reports whether one groove lies in another one.
func inside(l, other []api.Point) bool {
	for i := range l {
		if l[i].In < other[i].In || l[i].Out > other[i].Out {
			return false
		}
	}
	return len(l) == len(other)
}

// within reports whether an extent lies in another one.
func within(x, other api.Extent) bool { return other.Lo <= x.Lo && x.Hi <= other.Hi }

// someTip returns a tip of up to n elements, each of which is up to 9 more than the one before it.
func someTip(r *rand.Rand, n int) api.Tip {
	shape := make([]int64, 1+r.Intn(n))
	for k := 1; k < len(shape); k++ {
		shape[k] = shape[k-1] + r.Int63n(10)
	}
	return api.Tip{Shape: shape}
}

// sharper returns a tip than which the given one is blunter.
func sharper(r *rand.Rand, x api.Tip) api.Tip {
	shape := slices.Clone(x.Shape[:1+r.Intn(len(x.Shape))])
	more := int64(0)
	for k := 1; k < len(shape); k++ {
		more += r.Int63n(3)
		shape[k] += more
	}
	return api.Tip{Shape: shape}
}

// someGroove returns a groove of small numbers, whose bends are about as great as the elements of tips.
func someGroove(r *rand.Rand, n int) []api.Point {
	l := make([]api.Point, n)
	for i := range l {
		l[i] = api.Point{In: r.Int63n(30) - 60, Out: r.Int63n(30) + 30}
	}
	return l
}

// narrower returns a groove that lies in the given one.
func narrower(r *rand.Rand, l []api.Point) []api.Point {
	inner := slices.Clone(l)
	for i := range inner {
		inner[i].In += r.Int63n(4)
		inner[i].Out -= r.Int63n(4)
	}
	return inner
}

// wild returns a groove with edges of any size.
func wild(r *rand.Rand, n int) []api.Point {
	l := make([]api.Point, n)
	for i := range l {
		l[i] = api.Point{In: upTo(r, -api.MaxEdge, api.MaxEdge), Out: upTo(r, -api.MaxEdge, api.MaxEdge)}
	}
	return l
}

// wildTip returns a tip with elements of any size.
func wildTip(r *rand.Rand, n int) api.Tip {
	shape := make([]int64, n)
	for k := 1; k < n; k++ {
		shape[k] = upTo(r, 0, api.MaxEdge)
	}
	slices.Sort(shape)
	return api.Tip{Shape: shape}
}

// upTo returns a number from least to most, often one of both.
func upTo(r *rand.Rand, least, most int64) int64 {
	switch r.Intn(5) {
	case 0:
		return least
	case 1:
		return most
	}
	return least + r.Int63n(most-least+1)
}

// beyond are numbers that are not from least to most.
func beyond(least, most int64) []int64 {
	return []int64{least - 1, most + 1, least - 1<<40, most + 1<<40, math.MinInt64, math.MinInt64 + 1, math.MaxInt64, math.MaxInt64 - 1}
}

// invalidTips are tips that are not valid for one reason, with the error of each.
func invalidTips() map[api.Errno][]api.Tip {
	falling := tip(0, 4, 3)
	late := api.Tip{Shape: make([]int64, api.MaxReach)}
	late.Shape[api.MaxReach-2] = 1
	l := []api.Tip{falling, late, tip(1), tip(-1), tip(1, 2), tip(-1, 0), tip(0, -1), tip(0, -1, 0), tip(0, 5, 4, 9)}
	for _, x := range beyond(0, api.MaxEdge) {
		l = append(l, tip(0, x), tip(0, 0, x), tip(x), tip(x, x))
	}
	many := api.Tip{Shape: make([]int64, api.MaxReach+1)}
	wrong := api.Tip{Shape: slices.Repeat([]int64{5, 4}, api.MaxReach)}
	return map[api.Errno][]api.Tip{api.ErrArg: l, api.ErrMany: {tip(), {Shape: []int64{}}, many, wrong}}
}

// farPoints are points with an edge too far out or in.
func farPoints() []api.Point {
	var l []api.Point
	for _, x := range beyond(-api.MaxEdge, api.MaxEdge) {
		l = append(l, api.Point{In: x}, api.Point{Out: x}, api.Point{In: x, Out: x})
	}
	return l
}

// tooManyPoints are 4,097 points that are too far out.
func tooManyPoints() []api.Point {
	return slices.Repeat([]api.Point{{Out: api.MaxEdge + 1}}, api.MaxLong+1)
}
