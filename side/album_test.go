package side_test

import (
	"math"
	"math/rand"
	"slices"
	"testing"

	"deadwax/api"
	"deadwax/side"
)

// P4.4, P4.5: the chapter's examples.
func TestAlbumExamples(t *testing.T) {
	formats := []api.Format{example()}
	checkAlbum(t, formats, examples(), []api.Face{{Many: 1}, {Many: 2}}, 10, api.OK)
	if p, e := side.Prices(formats, examples()); !slices.Equal(p, []int64{0, 5, 10, 10}) || e != api.OK {
		t.Errorf("Prices: %v, %d", p, e)
	}
	checkPrices(t, formats, examples(), []int64{0, 5, 10, 11}, 3, api.ErrSum)
	checkPrices(t, formats, examples(), []int64{0, 5, 11, 10}, 2, api.ErrSum)
	checkPrices(t, formats, examples(), []int64{0, 5, 10, 10}, 0, api.OK)
}

func checkPrices(t *testing.T, formats []api.Format, l []api.Track, prices []int64, wrong int, e api.Errno) {
	t.Helper()
	if j, got := side.CheckPrices(formats, l, prices); j != wrong || got != e {
		t.Errorf("CheckPrices of %v of %v on %v: %d, %d, not %d, %d", prices, l, formats, j, got, wrong, e)
	}
}

// P4.4: of several plans the best one. There is room for 550 on a side of the examples.
func TestBestPlan(t *testing.T) {
	cheap, dear, big := costing(2), costing(4), costing(4)
	big.Inner = 0
	l := wide(270, 270, 270)

	// The cheapest, though it has more faces.
	checkAlbum(t, []api.Format{dear, cheap}, wide(500, 500), []api.Face{{Format: 1, Many: 1}, {Format: 1, Many: 1}}, 4, api.OK)
	checkAlbum(t, []api.Format{cheap, costing(1), big}, l, []api.Face{{Format: 1, Many: 1}, {Format: 1, Many: 2}}, 2, api.OK)
	// Of those that cost the same, the one with the fewest faces.
	checkAlbum(t, []api.Format{cheap, big}, l, []api.Face{{Format: 1, Many: 3}}, 4, api.OK)
	// Of those the first one by Format, then by Many.
	checkAlbum(t, []api.Format{cheap, cheap}, l, []api.Face{{Many: 1}, {Many: 2}}, 4, api.OK)
	checkAlbum(t, []api.Format{dear, cheap, cheap}, l, []api.Face{{Format: 1, Many: 1}, {Format: 1, Many: 2}}, 4, api.OK)
	// The second one can only be on the last format: the rest is on the first one.
	small := cheap
	small.Inner = 650
	checkAlbum(t, []api.Format{small, cheap}, wide(100, 500, 100), []api.Face{{Many: 1}, {Format: 1, Many: 1}, {Many: 1}}, 6, api.OK)
	// The first face decides before the second one: (0, 1), (1, 2) comes before (1, 2), (0, 1), and before (0, 2), (0, 1).
	checkAlbum(t, []api.Format{small, cheap}, wide(250, 250, 250), []api.Face{{Many: 1}, {Format: 1, Many: 2}}, 4, api.OK)
	checkAlbum(t, []api.Format{small, cheap}, wide(100, 100, 100, 100), []api.Face{{Format: 1, Many: 4}}, 2, api.OK)
	checkAlbum(t, []api.Format{small, cheap}, wide(100, 100, 100, 100, 150), []api.Face{{Many: 1}, {Format: 1, Many: 4}}, 4, api.OK)
	// What costs nothing.
	checkAlbum(t, []api.Format{costing(0), costing(1)}, l, []api.Face{{Many: 1}, {Many: 2}}, 0, api.OK)
}

// P4.4
func TestAlbumWithoutPlan(t *testing.T) {
	formats := []api.Format{example()}
	checkAlbum(t, formats, wide(551), nil, 0, api.ErrPlan)
	checkAlbum(t, formats, wide(1, 551), nil, 0, api.ErrPlan)
	checkAlbum(t, formats, wide(551, 1), nil, 0, api.ErrPlan)
	big := example()
	big.Inner = 399
	checkAlbum(t, append(formats, big), wide(551), []api.Face{{Format: 1, Many: 1}}, 5, api.OK)
	// A side without a track is not needed, possible or not.
	full := example()
	full.Tail = 581
	for _, f := range []api.Format{example(), full} {
		checkAlbum(t, []api.Format{f}, nil, nil, 0, api.OK)
		checkAlbum(t, []api.Format{f}, []api.Track{}, nil, 0, api.OK)
	}
}

// P4.4, P4.5: 24 tracks, 8 formats, the greatest cost.
func TestAlbumAtTheLimits(t *testing.T) {
	formats := slices.Repeat([]api.Format{costing(api.MaxCost)}, api.MaxFormats)
	l := slices.Repeat(wide(300), api.MaxTracks)
	most := int64(api.MaxCost * api.MaxTracks)
	each := slices.Repeat([]api.Face{{Many: 1}}, api.MaxTracks)
	checkAlbum(t, formats, l, each, most, api.OK)
	prices, e := side.Prices(formats, l)
	if e != api.OK || len(prices) != api.MaxTracks+1 || prices[api.MaxTracks] != most {
		t.Errorf("Prices: %v, %d", prices, e)
	}
	checkPrices(t, formats, l, prices, 0, api.OK)
	if n, e := side.Cost(formats, l, each); n != most || e != api.OK {
		t.Errorf("Cost: %d, %d", n, e)
	}
	checkAlbum(t, formats, slices.Repeat(wide(1), api.MaxTracks), []api.Face{{Many: api.MaxTracks}}, api.MaxCost, api.OK)
	formats[7].Inner, formats[7].Cost = 0, api.MaxCost-1
	checkAlbum(t, formats, l, slices.Repeat([]api.Face{{Format: 7, Many: 3}}, 8), 8*(api.MaxCost-1), api.OK)
}

func checkCost(t *testing.T, formats []api.Format, l []api.Track, plan []api.Face, want int64, e api.Errno) {
	t.Helper()
	if n, got := side.Cost(formats, l, plan); n != want || got != e {
		t.Errorf("Cost of %v of %v on %v: %d, %d, not %d, %d", plan, l, formats, n, got, want, e)
	}
}

// P4.4
func TestCost(t *testing.T) {
	formats := []api.Format{costing(3), costing(10)}
	l := wide(270, 270, 270)
	checkCost(t, formats, l, []api.Face{{Many: 1}, {Format: 1, Many: 2}}, 13, api.OK)
	checkCost(t, formats, l, []api.Face{{Many: 2}, {Many: 1}}, 6, api.OK)
	checkCost(t, formats, l, []api.Face{{Format: 1, Many: 1}, {Format: 1, Many: 1}, {Format: 1, Many: 1}}, 30, api.OK)
	checkCost(t, formats, l, []api.Face{{Many: 3}}, 0, api.ErrPlan)
	checkCost(t, formats, nil, nil, 0, api.OK)
	checkCost(t, formats, nil, []api.Face{}, 0, api.OK)
	// The order of the album counts.
	checkCost(t, formats[:1], examples(), []api.Face{{Many: 1}, {Many: 2}}, 6, api.OK)
	checkCost(t, formats[:1], examples(), []api.Face{{Many: 2}, {Many: 1}}, 0, api.ErrPlan)
	// Each face is looked at.
	checkCost(t, formats, wide(551, 1), []api.Face{{Many: 1}, {Many: 1}}, 0, api.ErrPlan)
	checkCost(t, formats, wide(1, 551), []api.Face{{Many: 1}, {Many: 1}}, 0, api.ErrPlan)
	// Each face is laid on its own format.
	formats[1].Inner = 700
	checkCost(t, formats, wide(270, 1), []api.Face{{Many: 1}, {Format: 1, Many: 1}}, 13, api.OK)
	checkCost(t, formats, wide(270, 1), []api.Face{{Format: 1, Many: 1}, {Many: 1}}, 0, api.ErrPlan)
}

// P4.4
func TestCostOfWrongPlans(t *testing.T) {
	formats := []api.Format{example(), example()}
	l := wide(551, 1)
	for _, i := range []int{-1, 2, 8, math.MinInt, math.MaxInt} {
		checkCost(t, formats, l, []api.Face{{Format: i, Many: 1}}, 0, api.ErrRange)
		checkCost(t, formats, l, []api.Face{{Many: 1}, {Format: i, Many: 1}}, 0, api.ErrRange)
		checkCost(t, formats, l, []api.Face{{Many: 5}, {Format: i, Many: 1}}, 0, api.ErrRange)
	}
	for _, n := range []int{0, -1, 25, math.MinInt, math.MaxInt} {
		checkCost(t, formats, l, []api.Face{{Many: n}}, 0, api.ErrRange)
		checkCost(t, formats, l, []api.Face{{Many: 1}, {Many: n}}, 0, api.ErrRange)
		checkCost(t, formats, l, []api.Face{{Many: 2}, {Many: n}}, 0, api.ErrRange)
	}
	checkCost(t, formats, l, []api.Face{{Many: math.MaxInt}, {Many: math.MaxInt}, {Many: 4}}, 0, api.ErrRange)
	for _, p := range [][]api.Face{nil, {{Many: 1}}, {{Many: 3}}, {{Many: 24}}, {{Many: 1}, {Many: 2}}, slices.Repeat([]api.Face{{Many: 24}}, 24)} {
		checkCost(t, formats, l, p, 0, api.ErrEqual)
	}
	checkCost(t, formats, nil, []api.Face{{Many: 1}}, 0, api.ErrEqual)
	checkCost(t, formats, l, make([]api.Face, 24), 0, api.ErrRange)
	checkCost(t, formats, l, make([]api.Face, 25), 0, api.ErrMany)
	checkCost(t, formats, l, slices.Repeat([]api.Face{{Many: 1}}, 25), 0, api.ErrMany)
	checkCost(t, formats, l, []api.Face{{Many: 1}, {Many: 1}}, 0, api.ErrPlan)
}

// P4.5
func TestPricesWithoutPlan(t *testing.T) {
	formats := []api.Format{example()}
	for _, x := range []struct {
		l    []api.Track
		want []int64
	}{
		{nil, []int64{0}},
		{wide(551), []int64{0, -1}},
		{wide(1, 551, 1), []int64{0, 5, -1, -1}},
		{wide(500, 500, 1), []int64{0, 5, 10, 10}},
	} {
		if p, e := side.Prices(formats, x.l); !slices.Equal(p, x.want) || e != api.OK {
			t.Errorf("Prices of %v: %v, %d, not %v", x.l, p, e, x.want)
		}
		checkPrices(t, formats, x.l, x.want, 0, api.OK)
	}
}

// P4.5
func TestCheckPrices(t *testing.T) {
	formats := []api.Format{costing(5), costing(7)}
	l := wide(300, 300, 300)
	checkPrices(t, formats, l, []int64{0, 5, 10, 15}, 0, api.OK)
	checkPrices(t, formats, l, []int64{0, 5, 9, 14}, 0, api.OK)
	checkPrices(t, formats, l, []int64{0, 5, 9, 15}, 3, api.ErrSum)
	checkPrices(t, formats, l, []int64{0, 6, 12, 18}, 1, api.ErrSum)
	checkPrices(t, formats, l, []int64{0, 5, 11, 0}, 2, api.ErrSum)
	checkPrices(t, formats, l, []int64{0, 5, -1, 0}, 2, api.ErrSum)
	checkPrices(t, formats, l, []int64{0, -1, 10, 15}, 1, api.ErrSum)
	checkPrices(t, formats, l, []int64{0, 0, 0, 0}, 0, api.OK)
	// What cannot be planned needs no price, but may have one; what follows from one that has none has no limit.
	far := wide(551, 300)
	checkPrices(t, formats, far, []int64{0, -1, -1}, 0, api.OK)
	checkPrices(t, formats, far, []int64{0, -1, 1000}, 0, api.OK)
	checkPrices(t, formats, far, []int64{0, 1000, 1005}, 0, api.OK)
	checkPrices(t, formats, far, []int64{0, 1000, 1006}, 2, api.ErrSum)
	checkPrices(t, formats, far, []int64{0, 1000, -1}, 2, api.ErrSum)
	checkPrices(t, formats, nil, []int64{0}, 0, api.OK)
	// The face with both tracks counts too.
	checkPrices(t, formats, wide(1, 1), []int64{0, 5, 5}, 0, api.OK)
	checkPrices(t, formats, wide(1, 1), []int64{0, 5, 6}, 2, api.ErrSum)
	checkPrices(t, formats, wide(1, 1), []int64{0, 0, 5}, 0, api.OK)
}

// P4.5
func TestCheckPricesOfWrongLists(t *testing.T) {
	formats := []api.Format{example()}
	l := wide(300, 300)
	for _, p := range [][]int64{nil, {}, {0}, {0, 5}, {0, 5, 10, 15}, {1, 5}, {-2, -2, -2, -2}} {
		checkPrices(t, formats, l, p, 0, api.ErrEqual)
	}
	checkPrices(t, formats, nil, nil, 0, api.ErrEqual)
	for _, x := range beyond(-1, api.MaxCost*api.MaxTracks) {
		for i := range 3 {
			p := []int64{0, 6, 10}
			p[i] = x
			checkPrices(t, formats, l, p, 0, api.ErrRange)
		}
	}
	for _, x := range []int64{-1, 1, api.MaxCost} {
		checkPrices(t, formats, l, []int64{x, 6, 10}, 0, api.ErrRange)
		checkPrices(t, formats, nil, []int64{x}, 0, api.ErrRange)
	}
	checkPrices(t, formats, wide(551), []int64{0, api.MaxCost * api.MaxTracks}, 0, api.OK)
	checkPrices(t, formats, l, []int64{0, api.MaxCost * api.MaxTracks, 10}, 1, api.ErrSum)
}

// P4.4, P4.5, P4.10
func TestAlbumByDefinition(t *testing.T) {
	r := rand.New(rand.NewSource(44))
	planned := 0
	for range 3000 {
		formats, l := someFormats(r, 1+r.Intn(3)), someTracks(r, 5)
		plan, cost, e := wantedAlbum(formats, l)
		checkAlbum(t, formats, l, plan, cost, e)
		want := wantedPrices(formats, l)
		prices, _ := side.Prices(formats, l)
		if !slices.Equal(prices, want) {
			t.Fatalf("Prices of %v on %v: %v, not %v", l, formats, prices, want)
		}
		checkPrices(t, formats, l, prices, 0, api.OK)
		last := prices[len(l)]
		if (e == api.OK && last != cost) || (e != api.OK && last != -1) {
			t.Fatalf("%v on %v: Album: %d, %d, but the last price %d", l, formats, cost, e, last)
		}
		for _, p := range allPlans(formats, l) {
			checkCost(t, formats, l, p, wantedCost(formats, p), api.OK)
			if wantedCost(formats, p) < cost {
				t.Fatalf("%v is cheaper than %v", p, plan)
			}
		}
		if e == api.OK && len(l) > 2 {
			planned++
		}
	}
	if planned < 300 {
		t.Errorf("too few have a plan: %d", planned)
	}
}

// P4.4: plans of any faces.
func TestCostByDefinition(t *testing.T) {
	r := rand.New(rand.NewSource(45))
	for range 5000 {
		formats, l := someFormats(r, 1+r.Intn(3)), someTracks(r, 6)
		var plan []api.Face
		want, e := int64(0), api.OK
		for from := 0; from < len(l); {
			x := api.Face{Format: r.Intn(len(formats)), Many: 1 + r.Intn(len(l)-from)}
			if !isPossible(formats[x.Format], l[from:from+x.Many], upTo(x.Many)) {
				e = api.ErrPlan
			}
			want += formats[x.Format].Cost
			from += x.Many
			plan = append(plan, x)
		}
		if e != api.OK {
			want = 0
		}
		checkCost(t, formats, l, plan, want, e)
	}
}

// P4.5, P4.10: prices near the best ones; those that are right say how much a plan costs at least.
func TestPricesProve(t *testing.T) {
	r := rand.New(rand.NewSource(410))
	right := 0
	for range 10000 {
		formats, l := someFormats(r, 1+r.Intn(2)), someTracks(r, 4)
		prices, _ := side.Prices(formats, l)
		for i := 1; i < len(prices); i++ {
			switch r.Intn(6) {
			case 0:
				prices[i] = max(-1, prices[i]-r.Int63n(3))
			case 1:
				prices[i] += r.Int63n(2)
			}
		}
		wrong := wantedWrong(formats, l, prices)
		if wrong != 0 {
			checkPrices(t, formats, l, prices, wrong, api.ErrSum)
			continue
		}
		checkPrices(t, formats, l, prices, 0, api.OK)
		right++
		_, cost, e := side.Album(formats, l)
		last := prices[len(l)]
		if e == api.OK && (last == -1 || last > cost) {
			t.Fatalf("the right prices %v of %v on %v, but the cost %d", prices, l, formats, cost)
		}
	}
	if right < 1000 || right > 9000 {
		t.Errorf("%d of 10000 are right", right)
	}
}
