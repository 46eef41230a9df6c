package take_test

import (
	"math/rand"
	"slices"
	"testing"

	"deadwax/api"
	"deadwax/take"
)

// P1.4
func TestStarts(t *testing.T) {
	l := exampleTakes()
	for _, c := range []struct {
		name   string
		p      []api.Part
		starts []int
		length int
	}{
		{"no parts", nil, nil, 0},
		{"the example", exampleParts(), []int{2, 5}, 7},
		{"one part", []api.Part{{From: 1, To: 3}}, []int{0}, 2},
		{"a gap", []api.Part{{To: 4}, {To: 4, Gap: 7}}, []int{0, 11}, 15},
		{"at once", []api.Part{{To: 2, Gap: 9}, {Take: 1, To: 2, Gap: -2}}, []int{9, 9}, 11},
		{"three parts", []api.Part{{To: 4}, {To: 4, Gap: -2}, {To: 4, Gap: -2}}, []int{0, 2, 4}, 8},
		{"up to the limit", []api.Part{{To: 4, Gap: api.MaxLong - 4}}, []int{api.MaxLong - 4}, api.MaxLong},
	} {
		s, n, e := take.Starts(l, c.p)
		if e != api.OK || n != c.length || !slices.Equal(s, c.starts) {
			t.Errorf("%s: %v %d %d", c.name, s, n, e)
		}
	}
	eachProgramme(t, 100, func(_ *rand.Rand, l []api.Take, p []api.Part) {
		starts, length := wantedStarts(p)
		if s, n, e := take.Starts(l, p); e != api.OK || n != length || !slices.Equal(s, starts) {
			t.Errorf("%v %d %d, not %v %d", s, n, e, starts, length)
		}
	})
}

// P1.5
func TestSources(t *testing.T) {
	l, p := exampleTakes(), exampleParts()
	p[0].From, p[0].Gap = 1, 3 // the parts begin at 3 and 5, and end at 6 and 7
	want := [][]api.Source{
		nil, nil, nil,
		{{Part: 0, Take: 0, Index: 1}},
		{{Part: 0, Take: 0, Index: 2}},
		{{Part: 0, Take: 0, Index: 3}, {Part: 1, Take: 1, Index: 0}},
		{{Part: 1, Take: 1, Index: 1}},
	}
	for at, w := range want {
		if s, e := take.Sources(l, p, at); e != api.OK || !slices.Equal(s, w) {
			t.Errorf("at %d: %v %d, not %v", at, s, e, w)
		}
	}
	for _, at := range extremes() {
		if at >= 0 && at < 7 {
			continue
		}
		if s, e := take.Sources(l, p, at); e != api.ErrRange || len(s) != 0 {
			t.Errorf("at %d: %v %d", at, s, e)
		}
	}
	if s, e := take.Sources(l, p, 7); e != api.ErrRange || len(s) != 0 {
		t.Errorf("at the end: %v %d", s, e)
	}
	if s, e := take.Sources(l, nil, 0); e != api.ErrRange || len(s) != 0 {
		t.Errorf("of no parts: %v %d", s, e)
	}
}

// P1.5
func TestSourcesInTheOrderOfParts(t *testing.T) {
	l := exampleTakes()
	p := []api.Part{{Take: 1, To: 2}, {To: 2, Gap: -2}, {From: 2, To: 4}, {Take: 1, To: 1, Gap: -1}}
	want := [][]api.Source{
		{{Part: 0, Take: 1, Index: 0}, {Part: 1, Take: 0, Index: 0}},
		{{Part: 0, Take: 1, Index: 1}, {Part: 1, Take: 0, Index: 1}},
		{{Part: 2, Take: 0, Index: 2}},
		{{Part: 2, Take: 0, Index: 3}, {Part: 3, Take: 1, Index: 0}},
	}
	for at, w := range want {
		if s, e := take.Sources(l, p, at); e != api.OK || !slices.Equal(s, w) {
			t.Errorf("at %d: %v %d, not %v", at, s, e, w)
		}
	}
	eachProgramme(t, 100, func(_ *rand.Rand, l []api.Take, p []api.Part) {
		starts, length := wantedStarts(p)
		for at := range length {
			var want []api.Source
			for i, x := range p {
				if k := at - starts[i]; k >= 0 && k < x.To-x.From {
					want = append(want, api.Source{Part: i, Take: x.Take, Index: x.From + k})
				}
			}
			if s, e := take.Sources(l, p, at); e != api.OK || !slices.Equal(s, want) {
				t.Errorf("at %d: %v %d, not %v", at, s, e, want)
			}
		}
	})
}

// P1.8
func TestSplit(t *testing.T) {
	l := exampleTakes()
	p := []api.Part{
		{To: 4, Gap: 2, In: 1, Out: 2, Level: 900},
		{Take: 1, To: 2, Gap: 3, In: 3, Out: 4, Level: 800},
		{From: 1, To: 3, Level: 700},
		{From: 2, To: 4, Gap: -1, Level: 600},
	} // from 2 to 6, 9 to 11, 11 to 13, 12 to 14
	moved := func(from, gap int) []api.Part {
		q := slices.Clone(p[from:])
		q[0].Gap = gap
		return q
	}
	for _, c := range []struct {
		at            int
		want          api.Errno
		first, second []api.Part
	}{
		{-1, api.ErrRange, nil, nil},
		{0, api.OK, nil, p},
		{1, api.OK, nil, moved(0, 1)},
		{2, api.OK, nil, moved(0, 0)},
		{3, api.ErrState, nil, nil},
		{5, api.ErrState, nil, nil},
		{6, api.OK, p[:1], moved(1, 3)},
		{8, api.OK, p[:1], moved(1, 1)},
		{9, api.OK, p[:1], moved(1, 0)},
		{10, api.ErrState, nil, nil},
		{11, api.OK, p[:2], moved(2, 0)},
		{12, api.ErrState, nil, nil},
		{13, api.ErrState, nil, nil},
		{14, api.OK, p, nil},
		{15, api.ErrRange, nil, nil},
		{1 << 40, api.ErrRange, nil, nil},
	} {
		a, b, e := take.Split(l, p, c.at)
		if e != c.want || !slices.Equal(a, c.first) || !slices.Equal(b, c.second) {
			t.Errorf("at %d: %v %v %d", c.at, a, b, e)
		}
	}
	if a, b, e := take.Split(l, nil, 0); e != api.OK || len(a) != 0 || len(b) != 0 {
		t.Errorf("no parts at 0: %v %v %d", a, b, e)
	}
	if _, _, e := take.Split(l, nil, 1); e != api.ErrRange {
		t.Errorf("no parts at 1: %d", e)
	}
}

// P1.8, for parts that begin together: the gap below 0 of a part that stays is kept.
func TestSplitOverlapping(t *testing.T) {
	l := exampleTakes()
	p := []api.Part{{To: 2, Level: 1}, {Take: 1, To: 2, Gap: 1, Level: 2}, {To: 3, Gap: -2, Level: 3}}
	a, b, e := take.Split(l, p, 2)
	want := []api.Part{{Take: 1, To: 2, Gap: 1, Level: 2}, {To: 3, Gap: -2, Level: 3}}
	if e != api.OK || !slices.Equal(a, p[:1]) || !slices.Equal(b, want) {
		t.Errorf("at 2: %v %v %d", a, b, e)
	}
	if _, _, e := take.Split(l, p, 5); e != api.ErrState {
		t.Errorf("at the end of the part that is within another one: %d", e)
	}
}

// R5: the results share no memory with the argument, nor with one another.
func TestSplitOwnMemory(t *testing.T) {
	l := exampleTakes()
	p := []api.Part{{To: 4}, {To: 4}, {To: 4}}
	for _, at := range []int{0, 4, 8, 12} {
		q := slices.Clone(p)
		a, b, e := take.Split(l, q, at)
		if e != api.OK {
			t.Fatalf("at %d: %d", at, e)
		}
		wantA, wantB := slices.Clone(a), slices.Clone(b)
		_ = append(a, api.Part{Gap: 77})
		if !slices.Equal(q, p) || !slices.Equal(b, wantB) {
			t.Errorf("at %d: the first programme shares its memory", at)
		}
		for i := range q {
			q[i].Level = 99
		}
		if !slices.Equal(a, wantA) || !slices.Equal(b, wantB) {
			t.Errorf("at %d: a result shares the argument's memory", at)
		}
	}
}

// P1.8
func TestSplitByDefinition(t *testing.T) {
	eachProgramme(t, 100, func(_ *rand.Rand, l []api.Take, p []api.Part) {
		starts, length := wantedStarts(p)
		for at := range length + 1 {
			many, cut := 0, false
			for i, x := range p {
				end := starts[i] + x.To - x.From
				cut = cut || starts[i] < at && end > at
				if end <= at {
					many++
				}
			}
			a, b, e := take.Split(l, p, at)
			if cut {
				if e != api.ErrState || len(a) != 0 || len(b) != 0 {
					t.Errorf("at %d: %v %v %d", at, a, b, e)
				}
				continue
			}
			rest := slices.Clone(p[many:])
			if len(rest) > 0 {
				rest[0].Gap = starts[many] - at
			}
			if e != api.OK || !slices.Equal(a, p[:many]) || !slices.Equal(b, rest) {
				t.Errorf("at %d: %v %v %d", at, a, b, e)
			}
		}
	})
}
