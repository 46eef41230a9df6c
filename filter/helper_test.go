package filter_test

import (
	"math"
	"math/big"
	"math/rand"
	"slices"
	"testing"

	"deadwax/api"
	"deadwax/filter"
)

const maxSide = 2 * api.MaxSample

// named are the names of all curves.
var named = []string{"flat", "warm", "bright", "shellac"}

func curve(t *testing.T, name string) api.Curve {
	t.Helper()
	c, e := filter.Named(name)
	if e != api.OK {
		t.Fatalf("Named(%q): %d", name, e)
	}
	return c
}

// earlier adds what the element i + 1 places before t weighs, if there is one.
func earlier(sum *big.Int, weights []int64, l []*big.Int, t int) {
	for i, w := range weights {
		if at := t - 1 - i; at >= 0 {
			sum.Add(sum, new(big.Int).Mul(big.NewInt(w), l[at]))
		}
	}
}

// correction follows the definition of the chapter, in numbers without limits.
func correction(c api.Curve, x, y []*big.Int, t int) *big.Int {
	sum := new(big.Int)
	earlier(sum, c.Feed, x, t)
	earlier(sum, c.Back, y, t)
	return sum.Div(sum, big.NewInt(c.Share)) // Div rounds down where the divisor is above 0
}

func output(c api.Curve, x []*big.Int) []*big.Int {
	var y []*big.Int
	for t := range x {
		y = append(y, new(big.Int).Add(x[t], correction(c, x, y, t)))
	}
	return y
}

func undone(c api.Curve, y []*big.Int) []*big.Int {
	var x []*big.Int
	for t := range y {
		x = append(x, new(big.Int).Sub(y[t], correction(c, x, y, t)))
	}
	return x
}

func toBig(l []int64) []*big.Int {
	var m []*big.Int
	for _, x := range l {
		m = append(m, big.NewInt(x))
	}
	return m
}

// fromBig returns the numbers, and whether all amounts are at most a limit.
func fromBig(l []*big.Int, most int64) ([]int64, bool) {
	var m []int64
	for _, x := range l {
		if x.CmpAbs(big.NewInt(most)) > 0 {
			return nil, false
		}
		m = append(m, x.Int64())
	}
	return m, true
}

// wantedChain follows the definition of the chapter, curve by curve.
func wantedChain(l []api.Curve, x []int64, way func(api.Curve, []*big.Int) []*big.Int, most int64) ([]int64, api.Errno) {
	y := slices.Clone(x)
	for _, c := range l {
		made, fits := fromBig(way(c, toBig(y)), most)
		if !fits {
			return nil, api.ErrOver
		}
		y = made
	}
	return y, api.OK
}

func wantedApplyAll(l []api.Curve, x []int64) ([]int64, api.Errno) {
	return wantedChain(l, x, output, api.MaxSample)
}

func wantedUndoAll(l []api.Curve, y []int64) ([]int64, api.Errno) {
	m := slices.Clone(l)
	slices.Reverse(m)
	return wantedChain(m, y, undone, api.MaxSample)
}

// wantedBound returns the bound of a curve, or that it is not tame.
func wantedBound(c api.Curve, most int64) (*big.Int, bool) {
	f, b := new(big.Int), new(big.Int)
	for _, x := range c.Feed {
		f.Add(f, new(big.Int).Abs(big.NewInt(x)))
	}
	for _, x := range c.Back {
		b.Add(b, new(big.Int).Abs(big.NewInt(x)))
	}
	share := big.NewInt(c.Share)
	if b.Cmp(share) >= 0 {
		return nil, false
	}
	n := new(big.Int).Add(share, f)
	n.Mul(n, big.NewInt(most)).Add(n, share).Sub(n, big.NewInt(1))
	return n.Div(n, share.Sub(share, b)), true
}

// fair reports whether gains are fair, by the definition of the chapter.
func fair(p []api.Sample, ceiling, step int64, gains []int64) bool {
	for t, g := range gains {
		if g < 0 || g > api.FullGain || !bearable(p[t], ceiling, g) {
			return false
		}
		if t > 0 && (g-gains[t-1] > step || gains[t-1]-g > step) {
			return false
		}
	}
	return true
}

// bearable reports whether a sample with a gain is not louder than the ceiling.
func bearable(s api.Sample, ceiling, gain int64) bool {
	return amount(s.L)*gain/api.FullGain <= ceiling && amount(s.R)*gain/api.FullGain <= ceiling
}

func wantedNeed(s api.Sample, ceiling int64) int64 {
	g := int64(api.FullGain)
	for !bearable(s, ceiling, g) {
		g--
	}
	return g
}

func wantedGains(p []api.Sample, ceiling, step int64) []int64 {
	var l []int64
	for t := range p {
		least := int64(math.MaxInt64)
		for u := range p {
			least = min(least, wantedNeed(p[u], ceiling)+step*amount(int64(t-u)))
		}
		l = append(l, least)
	}
	return l
}

func amount(x int64) int64 {
	if x < 0 {
		return -x
	}
	return x
}

// number returns a number whose amount is at most a limit, often a small one or one at the limit.
func number(r *rand.Rand, most int64) int64 {
	switch r.Intn(4) {
	case 0:
		return r.Int63n(7) - 3
	case 1:
		return []int64{most, -most, most - 1, 0}[r.Intn(4)]
	}
	return r.Int63n(2*most+1) - most
}

func signal(r *rand.Rand, n int, most int64) []int64 {
	x := make([]int64, n)
	for i := range x {
		x[i] = r.Int63n(2*most+1) - most
	}
	return x
}

func weights(r *rand.Rand, most int64) []int64 {
	l := make([]int64, r.Intn(api.MaxTaps+1))
	for i := range l {
		l[i] = r.Int63n(2*most+1) - most
	}
	return l
}

// anyCurve returns a valid curve; many of them make every signal too loud.
func anyCurve(r *rand.Rand) api.Curve {
	most := []int64{1, 10, 200, api.MaxWeight}[r.Intn(4)]
	return api.Curve{Feed: weights(r, most), Back: weights(r, most), Share: 1 + r.Int63n([]int64{1, 3, 256, api.MaxShare}[r.Intn(4)])}
}

// tameCurve returns a curve whose coefficients of Back weigh less than its Share.
func tameCurve(r *rand.Rand) api.Curve {
	for {
		c := api.Curve{Feed: weights(r, 300), Back: weights(r, 300), Share: 1 + r.Int63n(api.MaxShare)}
		if _, tame := wantedBound(c, 0); tame {
			return c
		}
	}
}

func chain(r *rand.Rand, n int, one func(*rand.Rand) api.Curve) []api.Curve {
	var l []api.Curve
	for range n {
		l = append(l, one(r))
	}
	return l
}

func programme(r *rand.Rand, n int, most int64) []api.Sample {
	p := make([]api.Sample, n)
	for i := range p {
		p[i] = api.Sample{L: number(r, most), R: number(r, most)}
	}
	return p
}

func copyCurve(c api.Curve) api.Curve {
	return api.Curve{Feed: slices.Clone(c.Feed), Back: slices.Clone(c.Back), Share: c.Share}
}

func copyCurves(l []api.Curve) []api.Curve {
	var m []api.Curve
	for _, c := range l {
		m = append(m, copyCurve(c))
	}
	return m
}

func sameCurve(a, b api.Curve) bool {
	return slices.Equal(a.Feed, b.Feed) && slices.Equal(a.Back, b.Back) && a.Share == b.Share
}

// beyond are numbers whose amounts are greater than a limit.
func beyond(most int64) []int64 {
	return []int64{most + 1, -most - 1, 1 << 40, -1 << 40, math.MaxInt64, math.MinInt64, math.MinInt64 + 1}
}

// invalidCurves are curves with the errors that they have.
func invalidCurves() map[string]struct {
	c    api.Curve
	want api.Errno
} {
	return map[string]struct {
		c    api.Curve
		want api.Errno
	}{
		"no share":            {api.Curve{}, api.ErrArg},
		"nine of Feed":        {api.Curve{Feed: make([]int64, api.MaxTaps+1), Share: 1}, api.ErrMany},
		"nine of Back":        {api.Curve{Back: make([]int64, api.MaxTaps+1)}, api.ErrMany},
		"a great coefficient": {api.Curve{Back: []int64{math.MinInt64}, Share: 1}, api.ErrArg},
	}
}

// tooMany is a signal of 4,097 numbers that are too great.
func tooMany() []int64 { return slices.Repeat([]int64{api.MaxSample + 1}, api.MaxLong+1) }

// tooManySamples is a programme of 4,097 samples that are too loud.
func tooManySamples() []api.Sample {
	return slices.Repeat([]api.Sample{{L: api.MaxSample + 1}}, api.MaxLong+1)
}

// loudSamples are samples that are too loud in a channel.
func loudSamples() []api.Sample {
	var l []api.Sample
	for _, x := range beyond(api.MaxSample) {
		l = append(l, api.Sample{L: x}, api.Sample{R: x}, api.Sample{L: x, R: x})
	}
	return l
}
