package side_test

import (
	"math/rand"
	"slices"
	"testing"

	"deadwax/api"
	"deadwax/side"
)

func checkFewest(t *testing.T, f api.Format, l []api.Track, want int, e api.Errno) {
	t.Helper()
	if n, got := side.Fewest(f, l); n != want || got != e {
		t.Errorf("Fewest of %v on %v: %d, %d, not %d, %d", l, f, n, got, want, e)
	}
}

// P4.6: the chapter's examples.
func TestPackExamples(t *testing.T) {
	checkPack(t, example(), examples(), []int{0, 0, 0}, 1, api.OK)
	checkFewest(t, example(), examples(), 1, api.OK)
}

// P4.6: of several packings the best one. There is room for 550 on a side of the examples, or for 540 with a gap.
func TestBestPacking(t *testing.T) {
	f := example()
	checkPack(t, f, wide(550), []int{0}, 1, api.OK)
	checkPack(t, f, wide(270, 270), []int{0, 0}, 1, api.OK)
	checkPack(t, f, wide(270, 271), []int{0, 1}, 2, api.OK)
	// The first two together would need a side more.
	checkPack(t, f, wide(200, 200, 340, 340), []int{0, 1, 0, 1}, 2, api.OK)
	checkPack(t, f, wide(400, 100, 300, 140, 220), []int{0, 0, 1, 1, 2}, 3, api.OK)
	// Of several with the fewest sides the first one.
	checkPack(t, f, wide(200, 200, 200), []int{0, 0, 1}, 2, api.OK)
	checkPack(t, f, wide(500, 200, 10, 10), []int{0, 1, 0, 0}, 2, api.OK)
	checkPack(t, f, slices.Repeat(wide(200), 8), []int{0, 0, 1, 1, 2, 2, 3, 3}, 4, api.OK)
	checkPack(t, f, slices.Repeat(wide(300), 8), upTo(8), 8, api.OK)
	checkPack(t, f, slices.Repeat(wide(10), 8), make([]int, 8), 1, api.OK)
	// A side has its tracks in any order.
	l := wide(200, 200)
	l[1].Least = 780
	checkPack(t, f, l, []int{0, 0}, 1, api.OK)
	l[0].Least = 571
	checkPack(t, f, l, []int{0, 1}, 2, api.OK)
}

// P4.6
func TestPackWithoutPacking(t *testing.T) {
	f := example()
	checkPack(t, f, wide(551), nil, 0, api.ErrPlan)
	checkPack(t, f, wide(1, 2, 551), nil, 0, api.ErrPlan)
	low := wide(1, 100, 1)
	low[1].Least = 881
	checkPack(t, f, low, nil, 0, api.ErrPlan)
	f.Tail = 580
	checkPack(t, f, nil, nil, 0, api.OK)
	checkPack(t, f, wide(1), nil, 0, api.ErrPlan)
	f.Tail = api.MaxRadius
	checkPack(t, f, nil, nil, 0, api.OK)
	checkPack(t, f, []api.Track{}, nil, 0, api.OK)
}

// P4.6
func TestFewest(t *testing.T) {
	f := example()
	for _, x := range []struct {
		l    []api.Track
		want int
	}{
		{nil, 0},
		{wide(1), 1},
		{wide(550), 1},
		{wide(551), 2},
		{wide(270, 270), 1},
		{wide(270, 271), 2},
		{wide(300, 300, 300), 2},
		{slices.Repeat(wide(550), 8), 8},
		{slices.Repeat(wide(4096), 8), 59},
		{wide(10, 551), 2},
	} {
		checkFewest(t, f, x.l, x.want, api.OK)
	}
	f.Gap = 0
	checkFewest(t, f, wide(275, 275), 1, api.OK)
	checkFewest(t, f, wide(275, 276), 2, api.OK)
	f.Tail = 579
	checkFewest(t, f, wide(7, 4), 11, api.OK)
	f.Tail = 580
	for _, l := range [][]api.Track{nil, wide(1)} {
		checkFewest(t, f, l, 0, api.ErrLimit)
	}
	f.Lead, f.Tail = api.MaxRadius, api.MaxRadius
	checkFewest(t, f, nil, 0, api.ErrLimit)
	widest := api.Format{Name: "f", Outer: 1, Per: 1}
	checkFewest(t, widest, slices.Repeat([]api.Track{{Long: api.MaxMinutes, Pitch: api.MaxBreadth}}, 8), 1<<39, api.OK)
}

// P4.6
func TestPackOfTooMany(t *testing.T) {
	f := example()
	f.Tail = 580
	for n := api.MaxAlone + 1; n <= api.MaxTracks+1; n++ {
		l := slices.Repeat(wide(1), n)
		for _, x := range []api.Format{example(), f} {
			checkPack(t, x, l, nil, 0, api.ErrMany)
			checkFewest(t, x, l, 0, api.ErrMany)
		}
	}
}

// aloneTracks returns n tracks, each of which has room on a side of the examples.
func aloneTracks(r *rand.Rand, n int) []api.Track {
	var l []api.Track
	for range n {
		l = append(l, api.Track{Long: 1, Pitch: 60 + r.Int63n(300), Least: 100 * r.Int63n(7)})
	}
	return l
}

// P4.6, P4.11
func TestPackByDefinition(t *testing.T) {
	r := rand.New(rand.NewSource(46))
	seen := map[int]int{}
	for range 2000 {
		f, l := someFormat(r), someTracks(r, 5)
		if r.Intn(2) == 0 {
			f, l = example(), aloneTracks(r, 5)
		}
		packing, many, e := wantedPack(f, l)
		checkPack(t, f, l, packing, many, e)
		if e == api.OK {
			seen[many]++
		}
		fewest, none := side.Fewest(f, l)
		if e == api.OK && len(l) > 0 && (none != api.OK || fewest > many) {
			t.Fatalf("Fewest of %v on %v: %d, %d, but there are %d", l, f, fewest, none, many)
		}
		for _, p := range packings(len(l)) {
			if e == api.OK && sidesOf(p) < many && isPossiblePacking(f, l, p) {
				t.Fatalf("%v of %v on %v has fewer sides than %v", p, l, f, packing)
			}
		}
	}
	for many := 1; many <= 3; many++ {
		if seen[many] < 50 {
			t.Errorf("too few packings on so many sides: %v", seen)
		}
	}
}

// P4.6: 8 tracks, against a search for any packing on fewer sides, and for an earlier one.
func TestPackOfEight(t *testing.T) {
	r := rand.New(rand.NewSource(468))
	all := packings(api.MaxAlone)
	for range 20 {
		f, l := example(), aloneTracks(r, api.MaxAlone)
		packing, many, e := side.Pack(f, l)
		if e != api.OK {
			t.Fatalf("Pack of %v: %d", l, e)
		}
		i := slices.IndexFunc(all, func(p []int) bool { return slices.Equal(p, packing) })
		if i < 0 || sidesOf(packing) != many || !usuallyPossible(f, l, packing) {
			t.Fatalf("Pack of %v: %v, %d", l, packing, many)
		}
		for k, p := range all {
			if better := sidesOf(p) < many || sidesOf(p) == many && k < i; better && usuallyPossible(f, l, p) {
				t.Fatalf("Pack of %v: %v, but %v is better", l, packing, p)
			}
		}
	}
}

// usuallyPossible lays each side in the usual order, which is possible if any order is.
func usuallyPossible(f api.Format, l []api.Track, packing []int) bool {
	for s := range sidesOf(packing) {
		if !isPossible(f, l, wantedUsual(l, tracksOn(s, packing))) {
			return false
		}
	}
	return true
}
