package filter_test

import (
	"math/big"
	"math/rand"
	"slices"
	"testing"

	"deadwax/api"
	"deadwax/filter"
)

// rounded returns half of a number, rounded down.
func rounded(x int64) int64 {
	return new(big.Int).Div(big.NewInt(x), big.NewInt(2)).Int64()
}

// P2.5
func TestSplit(t *testing.T) {
	for _, c := range []struct {
		s            api.Sample
		middle, side int64
	}{
		{api.Sample{L: 7, R: 2}, 4, 5},
		{api.Sample{L: -3, R: 2}, -1, -5},
		{api.Sample{}, 0, 0},
		{api.Sample{L: 1}, 0, 1},
		{api.Sample{R: 1}, 0, -1},
		{api.Sample{L: -1}, -1, -1},
		{api.Sample{R: -1}, -1, 1},
		{api.Sample{L: -1, R: -2}, -2, 1},
		{api.Sample{L: api.MaxSample, R: -api.MaxSample}, 0, maxSide},
		{api.Sample{L: -api.MaxSample, R: api.MaxSample}, 0, -maxSide},
		{api.Sample{L: api.MaxSample, R: api.MaxSample}, api.MaxSample, 0},
		{api.Sample{L: -api.MaxSample, R: -api.MaxSample}, -api.MaxSample, 0},
		{api.Sample{L: -api.MaxSample, R: -api.MaxSample + 1}, -api.MaxSample, -1},
	} {
		m, d, e := filter.Split([]api.Sample{c.s})
		if e != api.OK || !slices.Equal(m, []int64{c.middle}) || !slices.Equal(d, []int64{c.side}) {
			t.Errorf("Split of %v: %v, %v, %d", c.s, m, d, e)
		}
		p, e := filter.Join([]int64{c.middle}, []int64{c.side})
		if e != api.OK || !slices.Equal(p, []api.Sample{c.s}) {
			t.Errorf("Join of %d and %d: %v, %d", c.middle, c.side, p, e)
		}
	}
	m, d, e := filter.Split([]api.Sample{{L: 7, R: 2}, {L: -3, R: 2}})
	if e != api.OK || !slices.Equal(m, []int64{4, -1}) || !slices.Equal(d, []int64{5, -5}) {
		t.Errorf("Split of two: %v, %v, %d", m, d, e)
	}
	p, e := filter.Join([]int64{4, -1}, []int64{5, -5})
	if e != api.OK || !slices.Equal(p, []api.Sample{{L: 7, R: 2}, {L: -3, R: 2}}) {
		t.Errorf("Join of two: %v, %d", p, e)
	}
}

// P2.5
func TestJoinErrors(t *testing.T) {
	long := make([]int64, api.MaxLong)
	for _, c := range []struct {
		name         string
		middle, side []int64
		want         api.Errno
	}{
		{"nothing", nil, []int64{}, api.OK},
		{"4,096 of both", long, long, api.OK},
		{"4,097 of both", make([]int64, api.MaxLong+1), make([]int64, api.MaxLong+1), api.ErrMany},
		{"4,097 middles", tooMany(), nil, api.ErrMany},
		{"4,097 sides", []int64{1 << 40}, slices.Repeat([]int64{1 << 40}, api.MaxLong+1), api.ErrMany},
		{"4,096 and 4,095", long, long[1:], api.ErrEqual},
		{"a middle more", []int64{1 << 40, 2}, []int64{1 << 40}, api.ErrEqual},
		{"no middles", nil, []int64{1}, api.ErrEqual},
		{"no sides", []int64{1}, nil, api.ErrEqual},
		{"too loud before out of range", []int64{api.MaxSample, api.MaxSample + 1}, []int64{maxSide, 0}, api.ErrRange},
		{"too loud before out of range, a side", []int64{api.MaxSample, 0}, []int64{maxSide, maxSide + 1}, api.ErrRange},
		{"L is one above", []int64{api.MaxSample}, []int64{2}, api.ErrOver},
		{"L is one above, with an odd side", []int64{api.MaxSample}, []int64{1}, api.ErrOver},
		{"R is one above", []int64{api.MaxSample}, []int64{-1}, api.ErrOver},
		{"L is one below", []int64{-api.MaxSample}, []int64{-2}, api.ErrOver},
		{"R is one below", []int64{-api.MaxSample}, []int64{2}, api.ErrOver},
		{"R is at the least", []int64{-api.MaxSample}, []int64{1}, api.OK},
		{"L is at the least", []int64{-api.MaxSample}, []int64{-1}, api.OK},
		{"the last one is too loud", []int64{0, 0, 1}, []int64{maxSide, -maxSide, maxSide}, api.ErrOver},
	} {
		p, e := filter.Join(c.middle, c.side)
		if e != c.want || e != api.OK && len(p) != 0 || e == api.OK && len(p) != len(c.middle) {
			t.Errorf("%s: %v, %d, not %d", c.name, p, e, c.want)
		}
	}
	for _, x := range beyond(api.MaxSample) {
		if p, e := filter.Join([]int64{0, x, 0}, []int64{0, 0, 0}); e != api.ErrRange || len(p) != 0 {
			t.Errorf("a middle %d: %v, %d", x, p, e)
		}
	}
	for _, x := range beyond(maxSide) {
		if p, e := filter.Join([]int64{0, 0, 0}, []int64{0, 0, x}); e != api.ErrRange || len(p) != 0 {
			t.Errorf("a side %d: %v, %d", x, p, e)
		}
	}
}

// P2.5: the definition, and that both undo each other.
func TestJoinByDefinition(t *testing.T) {
	r := rand.New(rand.NewSource(25))
	for range 5000 {
		m, d := number(r, api.MaxSample), number(r, maxSide)
		right := m - rounded(d)
		left := right + d
		p, e := filter.Join([]int64{m}, []int64{d})
		if amount(left) > api.MaxSample || amount(right) > api.MaxSample {
			if e != api.ErrOver || len(p) != 0 {
				t.Errorf("Join of %d and %d: %v, %d", m, d, p, e)
			}
			continue
		}
		if e != api.OK || !slices.Equal(p, []api.Sample{{L: left, R: right}}) {
			t.Errorf("Join of %d and %d: %v, %d", m, d, p, e)
			continue
		}
		middle, side, e := filter.Split(p)
		if e != api.OK || !slices.Equal(middle, []int64{m}) || !slices.Equal(side, []int64{d}) {
			t.Errorf("Split of %v: %v, %v, %d", p, middle, side, e)
		}
		if m != rounded(left+right) {
			t.Errorf("the middle %d of %v is not half of the sum", m, p)
		}
	}
}

// wantedSided follows the definition of the chapter.
func wantedSided(c api.Curve, p []api.Sample, way func(api.Curve, []*big.Int) []*big.Int) ([]api.Sample, api.Errno) {
	var middles, sides []int64
	for _, s := range p {
		sides = append(sides, s.L-s.R)
		middles = append(middles, s.R+rounded(s.L-s.R))
	}
	made, fits := fromBig(way(c, toBig(sides)), maxSide)
	if !fits {
		return nil, api.ErrOver
	}
	var q []api.Sample
	for i, d := range made {
		s := api.Sample{L: middles[i] - rounded(d) + d, R: middles[i] - rounded(d)}
		if amount(s.L) > api.MaxSample || amount(s.R) > api.MaxSample {
			return nil, api.ErrOver
		}
		q = append(q, s)
	}
	return q, api.OK
}

// P2.6
func TestNarrowExamples(t *testing.T) {
	bright := curve(t, "bright")
	wide, narrow := []api.Sample{{L: 7, R: 2}, {L: 7, R: 2}}, []api.Sample{{L: 7, R: 2}, {L: 5, R: 4}}
	if p, e := filter.Narrow(bright, wide); e != api.OK || !slices.Equal(p, narrow) {
		t.Errorf("Narrow: %v, %d", p, e)
	}
	if p, e := filter.Widen(bright, narrow); e != api.OK || !slices.Equal(p, wide) {
		t.Errorf("Widen: %v, %d", p, e)
	}
}

// P2.6
func TestNarrowByDefinition(t *testing.T) {
	r := rand.New(rand.NewSource(26))
	fit := 0
	for i := range 6000 {
		c := []func(*rand.Rand) api.Curve{anyCurve, tameCurve}[i%2](r)
		p := programme(r, r.Intn(12), []int64{10, 2000, 15000, api.MaxSample}[r.Intn(4)])
		want, wantE := wantedSided(c, p, output)
		if q, e := filter.Narrow(c, p); e != wantE || !slices.Equal(q, want) {
			t.Fatalf("Narrow by %v of %v: %v, %d, not %v, %d", c, p, q, e, want, wantE)
		}
		if wantE == api.OK && len(p) > 0 {
			fit++
		}
		want, wantE = wantedSided(c, p, undone)
		if q, e := filter.Widen(c, p); e != wantE || !slices.Equal(q, want) {
			t.Fatalf("Widen by %v of %v: %v, %d, not %v, %d", c, p, q, e, want, wantE)
		}
	}
	if fit < 1000 {
		t.Errorf("only %d programmes were not too loud", fit)
	}
}

// P2.6: sides reach twice as far as channels, and channels may still be too loud.
func TestNarrowAtItsLimits(t *testing.T) {
	sum, back := api.Curve{Feed: []int64{1}, Share: 1}, api.Curve{Feed: []int64{-1}, Share: 1}
	far := api.Sample{L: api.MaxSample, R: -api.MaxSample}
	for _, c := range []struct {
		name string
		p    []api.Sample
		want api.Errno
	}{
		{"the greatest side", []api.Sample{{L: api.MaxSample}, {R: -api.MaxSample}}, api.ErrOver}, // the channels are 49,150 and -16,384
		{"the greatest side and channels", []api.Sample{{L: 16384, R: -16383}, {L: 16384, R: -16383}}, api.OK},
		{"a side one above", []api.Sample{far, {R: -1}}, api.ErrOver},
		{"a side one below", []api.Sample{{L: -api.MaxSample, R: api.MaxSample}, {R: 1}}, api.ErrOver},
		{"a side that is kept", []api.Sample{far, {}}, api.OK},
		{"a channel one above", []api.Sample{{L: api.MaxSample - 1, R: api.MaxSample - 3}, {L: api.MaxSample, R: api.MaxSample - 3}}, api.ErrOver},
		{"a channel at the limit", []api.Sample{{L: api.MaxSample - 1, R: api.MaxSample - 3}, {L: api.MaxSample - 1, R: api.MaxSample - 3}}, api.OK},
	} {
		if q, e := filter.Narrow(sum, c.p); e != c.want || e != api.OK && len(q) != 0 {
			t.Errorf("Narrow, %s: %v, %d", c.name, q, e)
		}
	}
	if q, e := filter.Widen(back, []api.Sample{far, {R: -1}}); e != api.ErrOver || len(q) != 0 {
		t.Errorf("Widen, a side one above: %v, %d", q, e)
	}
	if q, e := filter.Widen(back, []api.Sample{far, {}}); e != api.OK || !slices.Equal(q, []api.Sample{far, far}) {
		t.Errorf("Widen, the greatest side: %v, %d", q, e)
	}
}

// P2.5, P2.6
func TestSideErrors(t *testing.T) {
	for name, f := range map[string]func(api.Curve, []api.Sample) ([]api.Sample, api.Errno){
		"Narrow": filter.Narrow,
		"Widen":  filter.Widen,
		"Split": func(c api.Curve, p []api.Sample) ([]api.Sample, api.Errno) {
			m, d, e := filter.Split(p)
			return make([]api.Sample, len(m)+len(d)), e
		},
	} {
		if name != "Split" {
			for curve, c := range invalidCurves() {
				for _, p := range [][]api.Sample{nil, {{L: 1}}, {{L: 1 << 15}}, tooManySamples()} {
					if q, e := f(c.c, p); e != c.want || len(q) != 0 {
						t.Errorf("%s, %s: %d, %d", name, curve, len(q), e)
					}
				}
			}
		}
		warm := curve(t, "warm")
		for _, p := range [][]api.Sample{tooManySamples(), make([]api.Sample, api.MaxLong+1)} {
			if q, e := f(warm, p); e != api.ErrMany || len(q) != 0 {
				t.Errorf("%s, a long programme: %d, %d", name, len(q), e)
			}
		}
		if q, e := f(warm, make([]api.Sample, api.MaxLong)); e != api.OK || len(q) == 0 {
			t.Errorf("%s, the longest programme: %d, %d", name, len(q), e)
		}
		for _, s := range loudSamples() {
			if q, e := f(warm, []api.Sample{{L: api.MaxSample, R: -api.MaxSample}, {L: api.MaxSample, R: -api.MaxSample}, s}); e != api.ErrRange || len(q) != 0 {
				t.Errorf("%s, %v: %v, %d", name, s, q, e)
			}
		}
		for _, p := range [][]api.Sample{nil, {}} {
			if q, e := f(warm, p); e != api.OK || len(q) != 0 {
				t.Errorf("%s, nothing: %v, %d", name, q, e)
			}
		}
	}
}
