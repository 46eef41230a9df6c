package press_test

import (
	"math"
	"math/big"
	"math/rand"
	"slices"
	"testing"

	"deadwax/api"
	"deadwax/press"
)

// house is some presses at a boiler.
type house struct {
	presses, boiler int
	steam, rest     int64
}

func (h house) starts(t *testing.T, discs int) []int64 {
	t.Helper()
	l, e := press.Starts(h.presses, h.boiler, h.steam, h.rest, discs)
	if e != api.OK || len(l) != discs {
		t.Fatalf("Starts of %d discs with %v: %v, %d", discs, h, l, e)
	}
	return l
}

func (h house) check(l []int64) (int, api.Errno) {
	return press.CheckStarts(h.presses, h.boiler, h.steam, h.rest, l)
}

// on reports whether a phase that begins at a start goes on at a time.
func on(start, phase, time int64) bool {
	if time < start {
		return false
	}
	passed := new(big.Int).Sub(big.NewInt(time), big.NewInt(start))
	return passed.Cmp(big.NewInt(phase)) < 0
}

// wantedRight follows the chapter's definition of right starts at a time.
func (h house) wantedRight(l []int64, time int64) bool {
	steam, cycles := 0, 0
	for _, start := range l {
		if on(start, h.steam, time) {
			steam++
		}
		if on(start, h.steam+h.rest, time) {
			cycles++
		}
	}
	return steam <= h.boiler && cycles <= h.presses
}

// wantedCheck follows the chapter's definition of what CheckStarts returns.
func (h house) wantedCheck(l []int64) (int, api.Errno) {
	for i, start := range l {
		if start < 0 || i > 0 && start < l[i-1] {
			return i, api.ErrRange
		}
	}
	for i, start := range l {
		if !h.wantedRight(l[:i+1], start) {
			return i, api.ErrRule
		}
	}
	return len(l), api.OK
}

// P8.5: the chapter's examples.
func TestStartsExamples(t *testing.T) {
	h := house{2, 1, 3, 4}
	if l := h.starts(t, 4); !slices.Equal(l, []int64{0, 3, 7, 10}) {
		t.Errorf("Starts: %v", l)
	}
	for _, x := range []struct {
		l []int64
		i int
	}{{[]int64{0, 2}, 1}, {[]int64{0, 3, 6}, 2}} {
		if i, e := h.check(x.l); i != x.i || e != api.ErrRule {
			t.Errorf("CheckStarts of %v: %d, %d", x.l, i, e)
		}
	}
}

// smallHouses are houses of few presses and short phases.
func smallHouses() []house {
	var l []house
	for presses := 1; presses <= 4; presses++ {
		for boiler := 1; boiler <= 4; boiler++ {
			for steam := int64(1); steam <= 3; steam++ {
				for rest := int64(1); rest <= 3; rest++ {
					l = append(l, house{presses, boiler, steam, rest})
				}
			}
		}
	}
	return l
}

// allRight calls a function for all right starts up to a time, by trying all times for each disc.
func (h house) allRight(l []int64, discs int, last int64, each func([]int64)) {
	if len(l) == discs {
		each(l)
		return
	}
	first := int64(0)
	if len(l) > 0 {
		first = l[len(l)-1]
	}
	for start := first; start <= last; start++ {
		if longer := append(l[:len(l):len(l)], start); h.wantedRight(longer, start) {
			h.allRight(longer, discs, last, each)
		}
	}
}

// P8.5, P8.12: the earliest starts are right at each time, and no right ones have an earlier disc.
func TestEarliestOfAllStarts(t *testing.T) {
	for _, h := range smallHouses() {
		for discs := range 5 {
			l := h.starts(t, discs)
			if i, e := h.check(l); i != discs || e != api.OK {
				t.Fatalf("CheckStarts of %v with %v: %d, %d", l, h, i, e)
			}
			if discs == 0 {
				continue
			}
			for time := range l[discs-1] + 10 {
				if !h.wantedRight(l, time) {
					t.Fatalf("Starts with %v: %v is wrong at %d", h, l, time)
				}
			}
			found := false
			h.allRight(nil, discs, l[discs-1], func(other []int64) {
				for i := range l {
					if other[i] < l[i] {
						t.Fatalf("Starts with %v: %v, and not %v", h, l, other)
					}
				}
				found = found || slices.Equal(l, other)
			})
			if !found {
				t.Fatalf("Starts with %v: %v was not found", h, l)
			}
		}
	}
}

// P8.12: with more presses, or more steam at once, no disc starts later.
func TestMoreOfBoth(t *testing.T) {
	r := rand.New(rand.NewSource(812))
	for range 400 {
		h := house{1 + r.Intn(9), 1 + r.Intn(9), upTo(r, 1, 20), upTo(r, 1, 40)}
		discs := r.Intn(40)
		l := h.starts(t, discs)
		presses, boiler := h, h
		presses.presses++
		boiler.boiler++
		for _, more := range []house{presses, boiler} {
			for i, start := range more.starts(t, discs) {
				if start > l[i] {
					t.Fatalf("the disc %d starts at %d with %v, and at %d with %v", i, l[i], h, start, more)
				}
			}
		}
	}
}

// P8.5: starts that are right, or not, at any times, also at the last ones that there are.
func TestCheckStarts(t *testing.T) {
	r := rand.New(rand.NewSource(85))
	seen := map[api.Errno]int{}
	for range 20000 {
		h := house{1 + r.Intn(4), 1 + r.Intn(4), upTo(r, 1, 4), upTo(r, 1, 4)}
		l := h.starts(t, r.Intn(9))
		for i := range l {
			l[i] += r.Int63n(3) * r.Int63n(2)
		}
		if r.Intn(3) > 0 {
			slices.Sort(l)
		}
		if last := len(l) - 1; last >= 0 && r.Intn(3) == 0 {
			offset := math.MaxInt64 - slices.Max(l)
			for i := range l {
				l[i] += offset
			}
		}
		if len(l) > 0 && r.Intn(20) == 0 {
			l[r.Intn(len(l))] = []int64{-1, math.MinInt64, math.MaxInt64, 0}[r.Intn(4)]
		}
		i, e := h.check(l)
		if wantedIndex, wantedError := h.wantedCheck(l); i != wantedIndex || e != wantedError {
			t.Fatalf("CheckStarts of %v with %v: %d, %d, not %d, %d", l, h, i, e, wantedIndex, wantedError)
		}
		seen[e]++
	}
	if seen[api.OK] < 1000 || seen[api.ErrRange] < 1000 || seen[api.ErrRule] < 1000 {
		t.Errorf("seen: %v", seen)
	}
}

// P8.5: phases and starts at their limits; ErrRange of any start comes before ErrRule.
func TestStartsLimits(t *testing.T) {
	h := house{1, 1, api.MaxPhase, api.MaxPhase}
	l := h.starts(t, api.MaxDiscs)
	for i, start := range l {
		if start != int64(i)*2*api.MaxPhase {
			t.Fatalf("the start %d: %d", i, start)
		}
	}
	if i, e := h.check(l); i != api.MaxDiscs || e != api.OK {
		t.Errorf("CheckStarts of the greatest starts: %d, %d", i, e)
	}
	h = house{api.MaxPresses, api.MaxPresses, 1, 1}
	l = h.starts(t, api.MaxPresses+1)
	if l[api.MaxPresses-1] != 0 || l[api.MaxPresses] != 2 {
		t.Errorf("Starts with the most presses: %v", l)
	}
	l[api.MaxPresses] = 1
	if i, e := h.check(l); i != api.MaxPresses || e != api.ErrRule {
		t.Errorf("CheckStarts of %v: %d, %d", l, i, e)
	}
	for _, x := range []struct {
		l []int64
		i int
		e api.Errno
	}{
		{[]int64{math.MinInt64}, 0, api.ErrRange},
		{[]int64{0, 0, -1}, 2, api.ErrRange},
		{[]int64{0, 0, 5, 4, 3}, 3, api.ErrRange},
		{[]int64{0, 0, 0, 0}, 1, api.ErrRule},
		{[]int64{math.MaxInt64, math.MaxInt64}, 1, api.ErrRule},
		{[]int64{math.MaxInt64 - 7, math.MaxInt64}, 2, api.OK},
		{[]int64{math.MaxInt64 - 6, math.MaxInt64}, 1, api.ErrRule},
		{[]int64{math.MaxInt64, math.MinInt64}, 1, api.ErrRange},
		{[]int64{0, math.MaxInt64}, 2, api.OK},
	} {
		if i, e := (house{1, 1, 3, 4}).check(x.l); i != x.i || e != x.e {
			t.Errorf("CheckStarts of %v: %d, %d", x.l, i, e)
		}
	}
}

// P8.5: houses that there cannot be, and then too many discs.
func TestStartsErrors(t *testing.T) {
	wrong := func(h house, discs int, want api.Errno) {
		t.Helper()
		if l, e := press.Starts(h.presses, h.boiler, h.steam, h.rest, discs); len(l) != 0 || e != want {
			t.Errorf("Starts of %d discs with %v: %v, %d", discs, h, l, e)
		}
		if discs < 0 || discs > 2000 {
			return
		}
		l := slices.Repeat([]int64{-1}, discs)
		if i, e := h.check(l); i != 0 || e != want {
			t.Errorf("CheckStarts of %d discs with %v: %d, %d", discs, h, i, e)
		}
	}
	for _, discs := range []int{0, 3, api.MaxDiscs + 1, -1, math.MinInt} {
		for _, n := range beyond(1, api.MaxPresses) {
			wrong(house{int(n), 1, 1, 1}, discs, api.ErrRange)
			wrong(house{1, int(n), 1, 1}, discs, api.ErrRange)
		}
		for _, n := range beyond(1, api.MaxPhase) {
			wrong(house{1, 1, n, 1}, discs, api.ErrRange)
			wrong(house{1, 1, 1, n}, discs, api.ErrRange)
		}
	}
	for _, discs := range beyond(0, api.MaxDiscs) {
		wrong(house{1, 1, 1, 1}, int(discs), api.ErrMany)
	}
	h := house{1, 1, 1, 1}
	if i, e := h.check(nil); i != 0 || e != api.OK || len(h.starts(t, 0)) != 0 {
		t.Errorf("without discs: %d, %d", i, e)
	}
}
