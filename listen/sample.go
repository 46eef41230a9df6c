package listen

import "deadwax/api"

// thousand is what refuse and accept are parts of.
const thousand = 1000

// binomials are C(n, k), by n and by k: 0 where k is greater than n.
type binomials [api.MaxLot + 1][api.MaxLot + 1]int64

func newBinomials() *binomials {
	b := &binomials{}
	for n := range b {
		b[n][0] = 1
		for k := 1; k <= n; k++ {
			b[n][k] = b[n-1][k-1] + b[n-1][k]
		}
	}
	return b
}

// ways returns how many samples of a lot have at most so many bad discs.
func (b *binomials) ways(lot, bad, sample, most int) int64 {
	sum := int64(0)
	for found := range min(most, bad, sample) + 1 {
		sum += b[bad][found] * b[lot-bad][sample-found]
	}
	return sum
}

// trial is what a sampling has to hold for.
type trial struct {
	lot, good, bad int
	refuse, accept int64
}

// holds reports whether a sampling holds. 1,000 times all samples of a lot are below 2^57.
func (t trial) holds(b *binomials, sample, most int) bool {
	all := b[t.lot][sample]
	refused := all - b.ways(t.lot, t.good, sample, most)
	accepted := b.ways(t.lot, t.bad, sample, most)
	return thousand*refused <= t.refuse*all && thousand*accepted <= t.accept*all
}

// least returns the least sampling that holds: that of the whole lot does, if no lesser one.
func (t trial) least() (sample, most int) {
	b := newBinomials()
search:
	for sample = range t.lot + 1 {
		for most = range t.lot + 1 {
			if t.holds(b, sample, most) {
				break search
			}
		}
	}
	return sample, most
}
