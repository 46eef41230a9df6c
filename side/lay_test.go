package side_test

import (
	"math"
	"math/rand"
	"slices"
	"testing"

	"deadwax/api"
	"deadwax/side"
)

func checkLay(t *testing.T, f api.Format, l []api.Track, order []int, bands []api.Band, many int, e api.Errno) {
	t.Helper()
	if b, n, got := side.Lay(f, l, order); !slices.Equal(b, bands) || n != many || got != e {
		t.Errorf("Lay of %v of %v on %v: %v, %d, %d, not %v, %d, %d", order, l, f, b, n, got, bands, many, e)
	}
}

// P4.2: the chapter's examples.
func TestLayExamples(t *testing.T) {
	checkLay(t, example(), examples(), []int{1, 0, 2}, []api.Band{{Track: 1, From: 980, To: 860}, {Track: 0, From: 850, To: 650}, {Track: 2, From: 640, To: 590}}, 3, api.OK)
	checkLay(t, example(), examples(), []int{0, 1}, nil, 1, api.ErrRule)
}

// P4.2: what is just possible, and just not.
func TestLayAtTheLimits(t *testing.T) {
	f := example()
	at := func(least int64) []api.Track { return []api.Track{{Long: 100, Pitch: 10, Least: least}} }
	checkLay(t, f, at(880), []int{0}, []api.Band{{From: 980, To: 880}}, 1, api.OK)
	checkLay(t, f, at(881), []int{0}, nil, 0, api.ErrRule)

	// There is room for a band of 980 - 400 - 30.
	checkLay(t, f, wide(550), []int{0}, []api.Band{{From: 980, To: 430}}, 1, api.OK)
	checkLay(t, f, wide(551), []int{0}, nil, 1, api.ErrLimit)
	checkLay(t, f, wide(500, 40), []int{1, 0}, []api.Band{{Track: 1, From: 980, To: 940}, {From: 930, To: 430}}, 2, api.OK)
	checkLay(t, f, wide(500, 41), []int{1, 0}, nil, 2, api.ErrLimit)

	// A track that is cut too far in comes before an end that is too far in, wherever it is.
	l := wide(551, 1)
	l[0].Least = 430
	checkLay(t, f, l, []int{0, 1}, nil, 0, api.ErrRule)
	checkLay(t, f, l, []int{1, 0}, nil, 1, api.ErrRule)
	l[0].Least = 0
	checkLay(t, f, l, []int{0, 1}, nil, 2, api.ErrLimit)
	l[0].Least, l[1].Least = 900, 900
	checkLay(t, f, l, []int{0, 1}, nil, 0, api.ErrRule)
	checkLay(t, f, l, []int{1}, []api.Band{{Track: 1, From: 980, To: 979}}, 1, api.OK)

	// Without a Gap the bands touch.
	f.Gap = 0
	checkLay(t, f, wide(10, 20), []int{0, 1}, []api.Band{{From: 980, To: 970}, {Track: 1, From: 970, To: 950}}, 2, api.OK)
}

// P4.2
func TestLayOfNone(t *testing.T) {
	f := example()
	for _, l := range [][]api.Track{nil, examples()} {
		checkLay(t, f, l, nil, nil, 0, api.OK)
		checkLay(t, f, l, []int{}, nil, 0, api.OK)
	}
	f.Tail = 580
	checkLay(t, f, examples(), nil, nil, 0, api.OK)
	f.Tail = 581
	checkLay(t, f, examples(), nil, nil, 0, api.ErrLimit)
	f.Tail, f.Lead = 0, api.MaxRadius
	checkLay(t, f, nil, nil, nil, 0, api.ErrLimit)
	checkLay(t, f, wide(1), []int{0}, nil, 0, api.ErrRule)
}

// P4.2
func TestLayOfWrongOrders(t *testing.T) {
	for _, i := range []int{-1, 3, 4, 24, 31, 32, 63, 64, math.MinInt, math.MaxInt} {
		checkLay(t, example(), examples(), []int{i}, nil, 0, api.ErrRange)
		checkLay(t, example(), examples(), []int{0, 1, i}, nil, 0, api.ErrRange)
		checkLay(t, example(), examples(), []int{0, i, 0}, nil, 0, api.ErrRange)
		checkLay(t, example(), examples(), []int{0, 0, i}, nil, 0, api.ErrHave)
	}
	checkLay(t, example(), nil, []int{0}, nil, 0, api.ErrRange)
	checkLay(t, example(), examples(), []int{2, 1, 2}, nil, 0, api.ErrHave)
	checkLay(t, example(), examples(), []int{1, 0, 2, 0}, nil, 0, api.ErrHave)
	checkLay(t, example(), examples(), slices.Repeat([]int{1}, 100000), nil, 0, api.ErrHave)
	l := slices.Repeat(wide(1), api.MaxTracks)
	checkLay(t, example(), l, append(upTo(24), 23), nil, 0, api.ErrHave)
	checkLay(t, example(), l, append(upTo(24), 24), nil, 0, api.ErrRange)
}

// P4.2
func TestLayByDefinition(t *testing.T) {
	r := rand.New(rand.NewSource(42))
	seen := map[api.Errno]int{}
	for range 20000 {
		f, l := someFormat(r), someTracks(r, 5)
		order := r.Perm(len(l))[:r.Intn(len(l)+1)]
		bands, many, e := wantedLay(f, l, order)
		checkLay(t, f, l, order, bands, many, e)
		seen[e]++
	}
	if seen[api.OK] < 1000 || seen[api.ErrRule] < 1000 || seen[api.ErrLimit] < 1000 {
		t.Errorf("too few of a kind: %v", seen)
	}
}

// P4.8
func TestBands(t *testing.T) {
	r := rand.New(rand.NewSource(48))
	for range 20000 {
		f, l := someFormat(r), someTracks(r, 6)
		order := r.Perm(len(l))
		bands, many, e := side.Lay(f, l, order)
		if e != api.OK {
			continue
		}
		if many != len(order) || len(bands) != len(order) {
			t.Fatalf("%d bands of %v, said to be %d", len(bands), order, many)
		}
		above := f.Outer - f.Lead
		for i, b := range bands {
			width, _ := side.Width(f, l[order[i]])
			if b.Track != order[i] || b.From-b.To != width || b.From > above || b.To < l[b.Track].Least || b.To < f.Inner+f.Tail {
				t.Fatalf("the band %d of %v of %v on %v: %v", i, order, l, f, bands)
			}
			if i > 0 && f.Gap > 0 && b.From == above {
				t.Fatalf("bands touch: %v", bands)
			}
			above = b.To
		}
	}
}
