package side_test

import (
	"math"
	"math/rand"
	"slices"
	"testing"

	"deadwax/api"
	"deadwax/side"
)

func checkArrange(t *testing.T, f api.Format, l []api.Track, want []int, e api.Errno) {
	t.Helper()
	if order, got := side.Arrange(f, l); !slices.Equal(order, want) || got != e {
		t.Errorf("Arrange of %v on %v: %v, %d, not %v, %d", l, f, order, got, want, e)
	}
}

func checkFirstCrowd(t *testing.T, f api.Format, l []api.Track, want []int) {
	t.Helper()
	e := api.OK
	if want == nil {
		e = api.ErrNone
	}
	if crowd, got := side.Crowd(f, l); !slices.Equal(crowd, want) || got != e {
		t.Errorf("Crowd of %v on %v: %v, %d, not %v, %d", l, f, crowd, got, want, e)
	}
}

// P4.3: the chapter's examples.
func TestArrangeExamples(t *testing.T) {
	l := examples()
	checkArrange(t, example(), l, []int{1, 0, 2}, api.OK)
	checkFirstCrowd(t, example(), l, nil)
	l[1].Least = 900
	checkArrange(t, example(), l, nil, api.ErrPlan)
	checkFirstCrowd(t, example(), l, []int{1})
}

// P4.3
func TestArrangeOfNone(t *testing.T) {
	f := example()
	checkArrange(t, f, nil, nil, api.OK)
	checkFirstCrowd(t, f, nil, nil)
	f.Tail = 581
	checkArrange(t, f, nil, nil, api.ErrPlan)
	checkFirstCrowd(t, f, nil, nil)
	checkFirstCrowd(t, f, []api.Track{}, nil)
	checkArrange(t, f, wide(1), nil, api.ErrPlan)
	checkFirstCrowd(t, f, wide(1), []int{0})
}

// P4.3: several with the same Least stay in the order of their indexes.
func TestUsualOrder(t *testing.T) {
	var l []api.Track
	var want []int
	for i := range api.MaxTracks {
		l = append(l, api.Track{Long: 1, Pitch: 1, Least: int64(i % 3)})
	}
	for least := 2; least >= 0; least-- {
		for i := least; i < api.MaxTracks; i += 3 {
			want = append(want, i)
		}
	}
	checkArrange(t, example(), l, want, api.OK)
	checkArrange(t, example(), slices.Repeat(wide(1), api.MaxTracks), upTo(api.MaxTracks), api.OK)
}

// P4.3: a crowd is as short as the usual order allows, whether for the Least of its last track or for the end.
func TestFirstCrowd(t *testing.T) {
	f := example()
	l := wide(200, 200, 100, 1, 1)
	l[0].Least, l[1].Least, l[2].Least, l[3].Least = 300, 500, 400, 400
	// 1: 980 to 780; 2: 770 to 670; 3: 660 to 659; 0: 649 to 449; 4: 439 to 438, and the end is 408.
	checkArrange(t, f, l, []int{1, 2, 3, 0, 4}, api.OK)
	checkFirstCrowd(t, f, l, nil)
	l[4].Pitch = 10
	checkFirstCrowd(t, f, l, []int{0, 1, 2, 3, 4})
	l[4].Pitch, l[0].Pitch = 1, 230
	checkFirstCrowd(t, f, l, []int{0, 1, 2, 3})
	l[0].Pitch, l[3].Least = 200, 660
	// 3: 980 to 979; 1: 969 to 769; 2: 759 to 659.
	checkFirstCrowd(t, f, l, nil)
	l[2].Least = 660
	// 2: 980 to 880; 3: 870 to 869.
	checkArrange(t, f, l, []int{2, 3, 1, 0, 4}, api.OK)
	l[3].Least = 870
	// 3: 980 to 979; 2: 969 to 869.
	checkFirstCrowd(t, f, l, nil)
	l[2].Least = 870
	// 2: 980 to 880; 3: 870 to 869.
	checkFirstCrowd(t, f, l, []int{2, 3})
}

func checkCrowd(t *testing.T, f api.Format, l []api.Track, crowd []int, e api.Errno) {
	t.Helper()
	if got := side.CheckCrowd(f, l, crowd); got != e {
		t.Errorf("CheckCrowd of %v of %v on %v: %d, not %d", crowd, l, f, got, e)
	}
}

// P4.3
func TestCheckCrowd(t *testing.T) {
	f := example()
	l := wide(500, 40, 50, 500)
	checkCrowd(t, f, l, []int{0}, api.ErrSum)
	checkCrowd(t, f, l, []int{0, 1}, api.ErrSum)
	checkCrowd(t, f, l, []int{0, 2}, api.OK)
	checkCrowd(t, f, l, []int{0, 1, 2, 3}, api.OK)
	checkCrowd(t, f, l, []int{1, 2}, api.ErrSum)
	checkCrowd(t, f, l, []int{2, 3}, api.OK)
	l = wide(100, 100, 10)
	l[0].Least, l[1].Least = 880, 770
	checkCrowd(t, f, l, []int{0, 1}, api.ErrSum)
	l[1].Least = 771
	checkCrowd(t, f, l, []int{0, 1}, api.OK)
	checkCrowd(t, f, l, []int{0}, api.ErrSum)
	checkCrowd(t, f, l, []int{1}, api.ErrSum)
	// Only the Least of the last one counts.
	checkCrowd(t, f, l, []int{0, 1, 2}, api.ErrSum)
	checkFirstCrowd(t, f, l, []int{0, 1})
}

// P4.3
func TestCheckCrowdOfWrongLists(t *testing.T) {
	f := example()
	l := wide(500, 500, 500)
	for _, crowd := range [][]int{
		nil, {}, {-1}, {3}, {0, 3}, {-1, 0}, {0, 0}, {1, 0}, {0, 2, 1}, {0, 1, 1}, {2, 2}, {0, 1, 2, 3}, {0, 1, 2, 2},
		{32}, {64}, {math.MinInt}, {math.MaxInt}, {0, math.MaxInt}, upTo(1000),
	} {
		checkCrowd(t, f, l, crowd, api.ErrRange)
	}
	checkCrowd(t, f, nil, []int{0}, api.ErrRange)
	checkCrowd(t, f, nil, nil, api.ErrRange)
	checkCrowd(t, f, l, []int{0, 1, 2}, api.OK)
	many := slices.Repeat(l, 8)
	checkCrowd(t, f, many, upTo(api.MaxTracks), api.OK)
	checkCrowd(t, f, many, upTo(api.MaxTracks+1), api.ErrRange)
}

// P4.3
func TestCrowdsByDefinition(t *testing.T) {
	r := rand.New(rand.NewSource(43))
	for range 3000 {
		f, l := someFormat(r), someTracks(r, 6)
		usual := wantedUsual(l, upTo(len(l)))
		if isPossible(f, l, usual) {
			checkArrange(t, f, l, usual, api.OK)
			checkFirstCrowd(t, f, l, nil)
		} else {
			checkArrange(t, f, l, nil, api.ErrPlan)
			checkFirstCrowd(t, f, l, wantedCrowd(f, l))
		}
		for _, s := range subsets(len(l))[1:] {
			e := api.ErrSum
			if isCrowd(f, l, s) {
				e = api.OK
			}
			checkCrowd(t, f, l, s, e)
		}
	}
}

// P4.7
func TestUsualOrderIsPossible(t *testing.T) {
	r := rand.New(rand.NewSource(47))
	possible := 0
	for range 2000 {
		f, l := someFormat(r), someTracks(r, 6)
		_, e := side.Arrange(f, l)
		found := hasOrder(f, l, upTo(len(l)))
		if found != (e == api.OK) {
			t.Fatalf("%v on %v: an order is possible: %t, but Arrange: %d", l, f, found, e)
		}
		if found && len(l) > 2 {
			possible++
		}
	}
	if possible < 200 {
		t.Errorf("too few are possible: %d", possible)
	}
}

// P4.9
func TestCrowdsProve(t *testing.T) {
	r := rand.New(rand.NewSource(49))
	for range 1000 {
		f, l := someFormat(r), someTracks(r, 5)
		crowd, e := side.Crowd(f, l)
		if _, none := side.Arrange(f, l); len(l) > 0 && (none == api.ErrPlan) != (e == api.OK) {
			t.Fatalf("%v on %v: Arrange: %d, but Crowd: %v, %d", l, f, none, crowd, e)
		}
		if e == api.OK {
			checkCrowd(t, f, l, crowd, api.OK)
		}
		all := subsets(len(l))
		for _, s := range all {
			if side.CheckCrowd(f, l, s) != api.OK {
				continue
			}
			for _, more := range all {
				if contains(more, s) && hasOrder(f, l, more) {
					t.Fatalf("%v is a crowd of %v on %v, but %v has a possible order", s, l, f, more)
				}
			}
		}
	}
}

func contains(more, less []int) bool {
	for _, i := range less {
		if !slices.Contains(more, i) {
			return false
		}
	}
	return true
}
