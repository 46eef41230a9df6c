package listen_test

import (
	"math/big"
	"math/bits"
	"math/rand"
	"testing"

	"deadwax/api"
	"deadwax/listen"
)

// P9.1 to P9.3: the chapter's examples.
func TestSampleExamples(t *testing.T) {
	if n, e := listen.Choose(5, 2); n != 10 || e != api.OK {
		t.Errorf("Choose: %d, %d", n, e)
	}
	for most, want := range []int64{56, 112, 120, 120} {
		if n, e := listen.Ways(10, 2, 3, most); n != want || e != api.OK {
			t.Errorf("Ways with at most %d: %d, %d", most, n, e)
		}
	}
	if sample, most, e := listen.Sampling(10, 0, 5, 0, 100); sample != 3 || most != 0 || e != api.OK {
		t.Errorf("Sampling: %d, %d, %d", sample, most, e)
	}
	if n, e := listen.Ways(10, 5, 3, 0); n != 10 || e != api.OK {
		t.Errorf("Ways that are accepted: %d, %d", n, e)
	}
}

func choose(t *testing.T, n, k int) int64 {
	t.Helper()
	x, e := listen.Choose(n, k)
	if e != api.OK {
		t.Fatalf("Choose %d %d: %d", n, k, e)
	}
	return x
}

func ways(t *testing.T, lot, bad, sample, most int) int64 {
	t.Helper()
	x, e := listen.Ways(lot, bad, sample, most)
	if e != api.OK {
		t.Fatalf("Ways %d %d %d %d: %d", lot, bad, sample, most, e)
	}
	return x
}

// P9.1, P9.9: all of Pascal's triangle.
func TestChoose(t *testing.T) {
	for n := range api.MaxLot + 1 {
		for k := range n + 1 {
			if x := choose(t, n, k); x != new(big.Int).Binomial(int64(n), int64(k)).Int64() {
				t.Errorf("Choose %d %d: %d", n, k, x)
			}
			if k > 0 && k < n && choose(t, n, k) != choose(t, n-1, k-1)+choose(t, n-1, k) {
				t.Errorf("Choose %d %d is not the sum of those before", n, k)
			}
		}
	}
}

// P9.1
func TestChooseErrors(t *testing.T) {
	wrong := func(n, k int) {
		t.Helper()
		if x, e := listen.Choose(n, k); x != 0 || e != api.ErrRange {
			t.Errorf("Choose %d %d: %d, %d", n, k, x, e)
		}
	}
	for _, n := range beyond(0, api.MaxLot) {
		for _, k := range append(beyond(0, n), 0, 1, n) {
			wrong(n, k)
		}
	}
	for n := range api.MaxLot + 1 {
		for _, k := range beyond(0, n) {
			wrong(n, k)
		}
	}
}

// subsets counts the sets of discs of a lot, the first of which are bad, by how many discs they have, and how many bad ones.
func subsets(lot, bad int) (count [][]int64) {
	for range lot + 1 {
		count = append(count, make([]int64, lot+1))
	}
	for set := range uint(1) << lot {
		count[bits.OnesCount(set)][bits.OnesCount(set&(1<<bad-1))]++
	}
	return count
}

// P9.2: all sets of discs of small lots.
func TestWays(t *testing.T) {
	for lot := range 11 {
		for bad := range lot + 1 {
			for sample, count := range subsets(lot, bad) {
				want := int64(0)
				for most := -1; most <= lot; most++ {
					if most >= 0 {
						want += count[most]
					}
					if n := ways(t, lot, bad, sample, most); n != want {
						t.Errorf("Ways %d %d %d %d: %d, not %d", lot, bad, sample, most, n, want)
					}
				}
			}
		}
	}
}

// wantedWays counts the sets of discs with each number of bad ones.
func wantedWays(lot, bad, sample, most int) *big.Int {
	sum := new(big.Int)
	for i := 0; i <= most && i <= bad; i++ {
		if good := sample - i; good >= 0 && good <= lot-bad {
			n := new(big.Int).Binomial(int64(bad), int64(i))
			sum.Add(sum, n.Mul(n, new(big.Int).Binomial(int64(lot-bad), int64(good))))
		}
	}
	return sum
}

// P9.2, P9.9: great lots, and how their ways depend on each other.
func TestWaysOfGreatLots(t *testing.T) {
	r := rand.New(rand.NewSource(92))
	for i := range 20000 {
		lot := api.MaxLot - r.Intn(1+i%30)
		bad, sample, most := r.Intn(lot+1), r.Intn(lot+1), r.Intn(lot+2)-1
		n := ways(t, lot, bad, sample, most)
		if wantedWays(lot, bad, sample, most).Cmp(big.NewInt(n)) != 0 {
			t.Fatalf("Ways %d %d %d %d: %d", lot, bad, sample, most, n)
		}
		if most >= min(sample, bad) && n != choose(t, lot, sample) {
			t.Fatalf("Ways %d %d %d %d are not all", lot, bad, sample, most)
		}
		if most < lot && ways(t, lot, bad, sample, most+1) < n {
			t.Fatalf("Ways %d %d %d %d are more than with a greater most", lot, bad, sample, most)
		}
		if bad < lot && ways(t, lot, bad+1, sample, most) > n {
			t.Fatalf("Ways %d %d %d %d are fewer than with a greater bad", lot, bad, sample, most)
		}
		one, other := product(n, choose(t, lot, bad)), product(ways(t, lot, sample, bad, most), choose(t, lot, sample))
		if one.Cmp(other) != 0 {
			t.Fatalf("Ways %d %d %d %d: %v, and for the sample as the bad ones %v", lot, bad, sample, most, one, other)
		}
	}
}

func product(a, b int64) *big.Int { return new(big.Int).Mul(big.NewInt(a), big.NewInt(b)) }

// P9.2
func TestWaysErrors(t *testing.T) {
	wrong := func(lot, bad, sample, most int) {
		t.Helper()
		if x, e := listen.Ways(lot, bad, sample, most); x != 0 || e != api.ErrRange {
			t.Errorf("Ways %d %d %d %d: %d, %d", lot, bad, sample, most, x, e)
		}
	}
	for _, lot := range beyond(0, api.MaxLot) {
		wrong(lot, 0, 0, 0)
		wrong(lot, lot, lot, lot)
		wrong(lot, 2, 1, -1)
	}
	for _, lot := range []int{0, 1, 7, api.MaxLot} {
		for _, x := range beyond(0, lot) {
			wrong(lot, x, 0, 0)
			wrong(lot, 0, x, 0)
			wrong(lot, lot, x, lot)
			wrong(lot, x, x, x)
		}
		for _, most := range beyond(-1, lot) {
			wrong(lot, 0, 0, most)
			wrong(lot, lot, lot, most)
		}
	}
}

// trial is what a sampling has to hold for.
type trial struct {
	lot, good, bad int
	refuse, accept int64
}

// wanted follows the chapter's definition of a sampling that holds.
func (x trial) wanted(sample, most int) bool {
	all := new(big.Int).Binomial(int64(x.lot), int64(sample))
	atMost := func(ways *big.Int, thousandths int64) bool {
		return new(big.Int).Mul(ways, big.NewInt(1000)).Cmp(new(big.Int).Mul(all, big.NewInt(thousandths))) <= 0
	}
	refused := new(big.Int).Sub(all, wantedWays(x.lot, x.good, sample, most))
	return atMost(refused, x.refuse) && atMost(wantedWays(x.lot, x.bad, sample, most), x.accept)
}

// wantedSampling tries all samplings.
func (x trial) wantedSampling() (int, int) {
	for sample := 0; ; sample++ {
		for most := range x.lot + 1 {
			if x.wanted(sample, most) {
				return sample, most
			}
		}
	}
}

func (x trial) holds(t *testing.T, sample, most int) bool {
	t.Helper()
	ok, e := listen.Holds(x.lot, x.good, x.bad, x.refuse, x.accept, sample, most)
	if e != api.OK {
		t.Fatalf("Holds %v of %d, %d: %d", x, sample, most, e)
	}
	return ok
}

func (x trial) sampling(t *testing.T) (int, int) {
	t.Helper()
	sample, most, e := listen.Sampling(x.lot, x.good, x.bad, x.refuse, x.accept)
	if e != api.OK {
		t.Fatalf("Sampling %v: %d", x, e)
	}
	return sample, most
}

// thousandths returns a number from 0 to 1,000, often a small one or one of both.
func thousandths(r *rand.Rand) int64 {
	switch r.Intn(6) {
	case 0:
		return 0
	case 1:
		return 1000
	case 2:
		return r.Int63n(1001)
	}
	return r.Int63n(200)
}

func someTrial(r *rand.Rand, lot int) trial {
	bad := 1 + r.Intn(lot)
	return trial{lot, r.Intn(bad), bad, thousandths(r), thousandths(r)}
}

// P9.3: samplings that hold, and that do not.
func TestHolds(t *testing.T) {
	r := rand.New(rand.NewSource(93))
	seen := map[bool]int{}
	for i := range 20000 {
		x := someTrial(r, 1+i%api.MaxLot)
		sample, most := r.Intn(x.lot+1), r.Intn(x.lot+2)-1
		want := x.wanted(sample, most)
		seen[want]++
		if x.holds(t, sample, most) != want {
			t.Fatalf("Holds %v of %d, %d: not %v", x, sample, most, want)
		}
	}
	if seen[true] < 2000 || seen[false] < 2000 {
		t.Errorf("seen: %v", seen)
	}
}

// P9.3: the thousandths for which a sampling just holds.
func TestHoldsJust(t *testing.T) {
	for _, x := range []struct {
		trial
		sample, most int
		want         bool
	}{
		{trial{10, 0, 5, 0, 83}, 3, 0, false}, // 10 of 120 are more than 83 thousandths
		{trial{10, 0, 5, 0, 84}, 3, 0, true},
		{trial{10, 1, 5, 300, 84}, 3, 0, true}, // 36 of 120 are refused
		{trial{10, 1, 5, 299, 84}, 3, 0, false},
		{trial{10, 1, 5, 1000, 0}, 3, -1, true}, // all are refused
		{trial{10, 1, 5, 999, 0}, 3, -1, false},
		{trial{10, 1, 5, 0, 1000}, 3, 3, true}, // all are accepted
		{trial{10, 1, 5, 0, 999}, 3, 3, false},
		{trial{10, 1, 5, 0, 1000}, 0, 0, true},
		{trial{10, 1, 5, 0, 999}, 0, 0, false},
		{trial{10, 1, 5, 1000, 0}, 0, -1, true},
		{trial{10, 1, 5, 999, 0}, 0, -1, false},
		{trial{10, 1, 2, 0, 0}, 10, 1, true}, // the whole lot tells one bad disc from two
		{trial{10, 1, 2, 0, 0}, 10, 0, false},
		{trial{10, 1, 2, 0, 0}, 10, 2, false},
		{trial{2, 0, 1, 0, 500}, 1, 0, true},
		{trial{2, 0, 1, 0, 499}, 1, 0, false},
		{trial{50, 0, 25, 0, 500}, 1, 0, true},
		{trial{50, 1, 50, 500, 0}, 25, 0, true},
		{trial{50, 1, 50, 499, 0}, 25, 0, false},
	} {
		if ok := x.holds(t, x.sample, x.most); ok != x.want {
			t.Errorf("Holds %v of %d, %d: %v", x.trial, x.sample, x.most, ok)
		}
	}
}

// P9.3, P9.10: the least samplings of lots of all sizes.
func TestSampling(t *testing.T) {
	r := rand.New(rand.NewSource(910))
	for i := range 8 * api.MaxLot {
		x := someTrial(r, 1+i%api.MaxLot)
		wantedSample, wantedMost := x.wantedSampling()
		if sample, most := x.sampling(t); sample != wantedSample || most != wantedMost || !x.holds(t, sample, most) {
			t.Fatalf("Sampling %v: %d, %d, not %d, %d", x, sample, most, wantedSample, wantedMost)
		}
	}
}

// P9.10: what Sampling returns holds, and no lesser sample does.
func TestNoLesserSampling(t *testing.T) {
	r := rand.New(rand.NewSource(912))
	for range 3000 {
		x := someTrial(r, 1+r.Intn(12))
		sample, most := x.sampling(t)
		for less := range sample + 1 {
			for other := range x.lot + 1 {
				if holds := x.holds(t, less, other); holds && (less < sample || other < most) || !holds && less == sample && other == most {
					t.Fatalf("Sampling %v: %d, %d, but %d, %d: %v", x, sample, most, less, other, holds)
				}
			}
		}
	}
}

// P9.3: samplings that one can see.
func TestSomeSamplings(t *testing.T) {
	for _, x := range []struct {
		trial
		sample, most int
	}{
		{trial{10, 0, 5, 1000, 1000}, 0, 0},
		{trial{10, 0, 5, 0, 1000}, 0, 0},
		{trial{10, 0, 5, 1000, 0}, 6, 0}, // of 6 discs one is bad if 5 of 10 are
		{trial{10, 0, 5, 0, 0}, 6, 0},
		{trial{10, 0, 5, 0, 999}, 1, 0},
		{trial{4, 1, 2, 0, 0}, 4, 1},
		{trial{1, 0, 1, 0, 0}, 1, 0},
		{trial{1, 0, 1, 0, 999}, 1, 0},
		{trial{50, 24, 25, 0, 0}, 50, 24},
		{trial{50, 49, 50, 0, 0}, 50, 49},
		{trial{50, 0, 50, 0, 0}, 1, 0},
		{trial{50, 1, 50, 0, 0}, 2, 1},
	} {
		if sample, most := x.sampling(t); sample != x.sample || most != x.most {
			t.Errorf("Sampling %v: %d, %d, not %d, %d", x.trial, sample, most, x.sample, x.most)
		}
	}
}

// P9.10: what is easier needs no greater sample.
func TestEasierSamplings(t *testing.T) {
	r := rand.New(rand.NewSource(911))
	for range 3000 {
		x := someTrial(r, 1+r.Intn(20))
		easier := trial{x.lot, r.Intn(x.good + 1), x.bad + r.Intn(x.lot-x.bad+1), x.refuse + r.Int63n(1001-x.refuse), x.accept + r.Int63n(1001-x.accept)}
		sample, _ := x.sampling(t)
		if less, _ := easier.sampling(t); less > sample {
			t.Fatalf("Sampling %v: %d; %v: %d", x, sample, easier, less)
		}
	}
}

// P9.3
func TestSamplingErrors(t *testing.T) {
	wrong := func(x trial) {
		t.Helper()
		for _, s := range [][2]int{{0, 0}, {1, -1}, {x.lot, x.lot}, {x.lot + 1, 0}, {0, -2}} {
			if ok, e := listen.Holds(x.lot, x.good, x.bad, x.refuse, x.accept, s[0], s[1]); ok || e != api.ErrRange {
				t.Errorf("Holds %v of %v: %v, %d", x, s, ok, e)
			}
		}
		if sample, most, e := listen.Sampling(x.lot, x.good, x.bad, x.refuse, x.accept); sample != 0 || most != 0 || e != api.ErrRange {
			t.Errorf("Sampling %v: %d, %d, %d", x, sample, most, e)
		}
	}
	for _, lot := range beyond(0, api.MaxLot) {
		wrong(trial{lot, 0, 1, 1000, 1000})
		wrong(trial{lot, lot - 1, lot, 1000, 1000})
	}
	wrong(trial{0, 0, 0, 1000, 1000}) // in an empty lot bad is not greater than good
	wrong(trial{0, 0, 1, 1000, 1000})
	for _, lot := range []int{1, 7, api.MaxLot} {
		for _, x := range beyond(0, lot) {
			wrong(trial{lot, x, lot, 1000, 1000})
			wrong(trial{lot, 0, x, 1000, 1000})
			wrong(trial{lot, x, x, 1000, 1000})
		}
		wrong(trial{lot, -1, 0, 1000, 1000})
		wrong(trial{lot, -2, -1, 1000, 1000})
		wrong(trial{lot, lot, lot + 1, 1000, 1000})
		wrong(trial{lot, lot, lot, 1000, 1000})
		wrong(trial{lot, 0, 0, 1000, 1000})
		wrong(trial{lot, lot, lot - 1, 1000, 1000})
		for _, x := range beyond(0, 1000) {
			wrong(trial{lot, 0, 1, int64(x), 1000})
			wrong(trial{lot, 0, 1, 1000, int64(x)})
		}
	}
}

// P9.3: Holds has a sample and a most of its own.
func TestHoldsErrors(t *testing.T) {
	for _, lot := range []int{1, 7, api.MaxLot} {
		wrong := func(sample, most int) {
			t.Helper()
			if ok, e := listen.Holds(lot, 0, 1, 1000, 1000, sample, most); ok || e != api.ErrRange {
				t.Errorf("Holds of %d, %d of %d: %v, %d", sample, most, lot, ok, e)
			}
		}
		for _, sample := range beyond(0, lot) {
			wrong(sample, 0)
			wrong(sample, sample)
		}
		for _, most := range beyond(-1, lot) {
			wrong(0, most)
			wrong(lot, most)
		}
		for _, s := range [][2]int{{0, -1}, {0, lot}, {lot, -1}, {lot, lot}} {
			if ok, e := listen.Holds(lot, 0, 1, 1000, 1000, s[0], s[1]); !ok || e != api.OK {
				t.Errorf("Holds of %v of %d: %v, %d", s, lot, ok, e)
			}
		}
	}
}
