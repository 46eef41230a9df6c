package take_test

import (
	"math/rand"
	"slices"
	"testing"

	"deadwax/api"
	"deadwax/take"
)

// P1.6
func TestSound(t *testing.T) {
	l := []api.Take{
		{Name: "a", Data: []api.Sample{{L: 100, R: -100}, {L: 200, R: -200}, {L: 300, R: -300}, {L: 400, R: -400}}},
		{Name: "b", Data: []api.Sample{{L: 1, R: -1}, {L: 3, R: -3}, {L: 7, R: -7}}},
		{Name: "c", Data: []api.Sample{{L: api.MaxSample, R: -api.MaxSample}}},
	}
	for _, c := range []struct {
		name string
		p    api.Part
		want []api.Sample
	}{
		{"the example", api.Part{To: 4, In: 1, Out: 3, Level: 500}, []api.Sample{{L: 25, R: -25}, {L: 75, R: -75}, {L: 75, R: -75}, {L: 50, R: -50}}},
		{"plain", api.Part{To: 4, Level: 1000}, l[0].Data},
		{"a piece", api.Part{From: 1, To: 3, Level: 1000}, l[0].Data[1:3]},
		{"silent", api.Part{To: 4}, make([]api.Sample, 4)},
		{"rounded toward 0", api.Part{Take: 1, To: 3, Level: 500}, []api.Sample{{}, {L: 1, R: -1}, {L: 3, R: -3}}},
		{"rounded once", api.Part{Take: 1, From: 0, To: 3, In: 2, Level: 1500}, []api.Sample{{}, {L: 3, R: -3}, {L: 10, R: -10}}},
		{"both fades rounded once", api.Part{Take: 1, From: 1, To: 3, In: 2, Out: 1, Level: 3000}, []api.Sample{{L: 3, R: -3}, {L: 7, R: -7}}},
		{"fades longer than the part", api.Part{To: 4, In: 9, Out: 7, Level: 1000}, []api.Sample{{L: 5, R: -5}, {L: 15, R: -15}, {L: 22, R: -22}, {L: 20, R: -20}}},
		{"the longest fades", api.Part{Take: 2, To: 1, In: 1000, Out: 1000, Level: 4000}, []api.Sample{{}}},
		{"a long fade in", api.Part{Take: 2, To: 1, In: 1000, Level: 4000}, []api.Sample{{L: 130, R: -130}}},
		{"a long fade out", api.Part{Take: 2, To: 1, Out: 1000, Level: 4000}, []api.Sample{{L: 130, R: -130}}},
		{"the greatest level", api.Part{Take: 2, To: 1, Level: 4000}, []api.Sample{{L: 131068, R: -131068}}},
	} {
		for k, w := range c.want {
			if s, e := take.Sound(l, []api.Part{{To: 1}, c.p}, 1, k); e != api.OK || s != w {
				t.Errorf("%s: the sample %d: %v %d, not %v", c.name, k, s, e, w)
			}
		}
	}
}

// P1.6
func TestSoundRange(t *testing.T) {
	l, p := exampleTakes(), exampleParts()
	p[0].From = 1
	good := map[[2]int]bool{{0, 0}: true, {0, 1}: true, {0, 2}: true, {1, 0}: true, {1, 1}: true}
	numbers := append(extremes(), 2, 3, 4, 5)
	for _, i := range numbers {
		for _, k := range numbers {
			want := api.ErrRange
			if good[[2]int{i, k}] {
				want = api.OK
			}
			s, e := take.Sound(l, p, i, k)
			if e != want || e != api.OK && s != (api.Sample{}) {
				t.Errorf("the sample %d of the part %d: %v %d", k, i, s, e)
			}
		}
	}
	if s, e := take.Sound(l, nil, 0, 0); e != api.ErrRange || s != (api.Sample{}) {
		t.Errorf("no parts: %v %d", s, e)
	}
}

// P1.6
func TestRender(t *testing.T) {
	l := exampleTakes()
	for _, c := range []struct {
		name string
		p    []api.Part
		want []api.Sample
	}{
		{"no parts", nil, nil},
		{"the example", exampleParts(), []api.Sample{{}, {}, {L: 100, R: -100}, {L: 200, R: -200}, {L: 300, R: -300}, {L: 1400, R: -400}, {L: 1000}}},
		{"fades", []api.Part{{To: 4, In: 1, Out: 3, Level: 500}}, []api.Sample{{L: 25, R: -25}, {L: 75, R: -75}, {L: 75, R: -75}, {L: 50, R: -50}}},
		{"a gap within", []api.Part{{To: 1, Level: 1000}, {Take: 1, To: 1, Gap: 2, Level: 2000}}, []api.Sample{{L: 100, R: -100}, {}, {}, {L: 2000}}},
		{"within another one", []api.Part{{To: 4, Level: 1000}, {Take: 1, To: 2, Gap: -2, Level: 1000}}, []api.Sample{{L: 100, R: -100}, {L: 200, R: -200}, {L: 1300, R: -300}, {L: 1400, R: -400}}},
	} {
		if s, e := take.Render(l, c.p); e != api.OK || !slices.Equal(s, c.want) {
			t.Errorf("%s: %v %d", c.name, s, e)
		}
	}
	long := []api.Take{loudTake("a", api.MaxLong)}
	if s, e := take.Render(long, []api.Part{{To: api.MaxLong, Level: 1000}}); e != api.OK || !slices.Equal(s, long[0].Data) {
		t.Errorf("the longest programme: %d samples, %d", len(s), e)
	}
}

// P1.6
func TestRenderOver(t *testing.T) {
	l := []api.Take{{Name: "a", Data: []api.Sample{{L: 20000, R: 12767}, {L: 12767, R: 20000}, {L: 12768}, {L: -12767}, {L: -12768}, {R: 12768}, {R: -12768}, {R: -20000}, {L: -20000}}}}
	one := func(k int, gap int) api.Part { return api.Part{From: k, To: k + 1, Gap: gap, Level: 1000} }
	for _, c := range []struct {
		name string
		a, b int
		want api.Errno
	}{
		{"32,767 in both", 0, 1, api.OK},
		{"32,768 on the left", 0, 2, api.ErrOver},
		{"32,768 on the right", 1, 5, api.ErrOver},
		{"-32,767", 8, 3, api.OK},
		{"-32,768 on the left", 8, 4, api.ErrOver},
		{"-32,768 on the right", 7, 6, api.ErrOver},
		{"one takes away from the other", 0, 8, api.OK},
	} {
		s, e := take.Render(l, []api.Part{one(c.a, 5), one(c.b, -1), one(2, 3)})
		if e != c.want || e != api.OK && len(s) != 0 {
			t.Errorf("%s: %v %d", c.name, s, e)
		}
	}
	loudest := []api.Take{loudTake("a", 2)}
	if _, e := take.Render(loudest, []api.Part{{To: 2, Level: 1001}}); e != api.ErrOver {
		t.Errorf("one part alone: %d", e)
	}
	// Two parts that are too loud, and together are not.
	l[0].Data = []api.Sample{{L: 32767}, {L: -32767}}
	p := []api.Part{{To: 1, Level: 4000}, {From: 1, To: 2, Gap: -1, Level: 4000}}
	if s, e := take.Render(l, p); e != api.OK || len(s) != 1 || s[0] != (api.Sample{}) {
		t.Errorf("opposites: %v %d", s, e)
	}
}

// P1.6
func TestSoundByDefinition(t *testing.T) {
	for _, most := range []int64{3, 300, api.MaxSample} {
		eachProgramme(t, most, func(_ *rand.Rand, l []api.Take, p []api.Part) {
			for i, x := range p {
				for k := range x.To - x.From {
					want := wantedSound(l, x, k)
					if s, e := take.Sound(l, p, i, k); e != api.OK || s != want {
						t.Errorf("the sample %d of the part %d: %v %d, not %v", k, i, s, e, want)
					}
				}
			}
			want, _ := wantedSums(l, p)
			s, e := take.Render(l, p)
			if loud(want) && (e != api.ErrOver || len(s) != 0) || !loud(want) && (e != api.OK || !slices.Equal(s, want)) {
				t.Errorf("Render: %v %d, not %v", s, e, want)
			}
		})
	}
}

// P1.7
func TestHeadroom(t *testing.T) {
	l := []api.Take{
		{Name: "a", Data: []api.Sample{{L: 100, R: -100}, {L: 200, R: -200}, {L: 300, R: -300}, {L: 400, R: -400}}},
		{Name: "b", Data: []api.Sample{{L: 1000}, {L: 1000}}},
		{Name: "c", Data: []api.Sample{{L: 20000}, {L: -20000}, {R: 20000}, {R: -20000}}},
		loudTake("d", 3),
		{Name: "e", Data: []api.Sample{{L: 8191}, {L: 8192}}},
	}
	over := func(a, b api.Part) []api.Part {
		b.Gap = a.From - a.To
		return []api.Part{a, b}
	}
	for _, c := range []struct {
		name string
		p    []api.Part
		want int64
	}{
		{"no parts", nil, 4000},
		{"silence", []api.Part{{Take: 3, To: 3}}, 4000},
		{"the first example", []api.Part{{To: 4, Level: 1000}}, 4000},
		{"the second example", []api.Part{{Take: 1, To: 2, Level: 4000}}, 4000},
		{"20,000", []api.Part{{Take: 2, To: 1, Level: 1000}}, 1638},
		{"20,000 on the right", []api.Part{{Take: 2, From: 3, To: 4, Level: 1000}}, 1638},
		{"the loudest", []api.Part{{Take: 3, To: 3, Level: 1000}}, 1000},
		{"the loudest at 4,000", []api.Part{{Take: 3, To: 3, Level: 4000}}, 250},
		{"the loudest at 1", []api.Part{{Take: 3, To: 3, Level: 1}}, 4000},
		{"a level is rounded down", []api.Part{{Take: 3, To: 3, Level: 1500}}, 667},
		{"two parts, each a half", over(api.Part{Take: 3, To: 1, Level: 4000}, api.Part{Take: 3, To: 1, Level: 4000}), 125},
		{"one does not take away from the other", over(api.Part{Take: 2, To: 1, Level: 1000}, api.Part{Take: 2, From: 1, To: 2, Level: 1000}), 819},
		{"nor on the right", over(api.Part{Take: 2, From: 2, To: 3, Level: 1000}, api.Part{Take: 2, From: 3, To: 4, Level: 1000}), 819},
		{"different channels", over(api.Part{Take: 2, To: 1, Level: 1000}, api.Part{Take: 2, From: 2, To: 3, Level: 1000}), 1638},
		{"one after another", []api.Part{{Take: 2, To: 1, Level: 1000}, {Take: 2, From: 1, To: 2, Level: 1000}}, 1638},
		{"just 4,000", []api.Part{{Take: 4, To: 1, Level: 1000}}, 4000},
		{"just not 4,000", []api.Part{{Take: 4, To: 2, Level: 1000}}, 3999},
		{"a fade", []api.Part{{Take: 3, To: 1, In: 3, Level: 1000}}, 4000},
		{"the last sample", []api.Part{{To: 4, Gap: 2, Level: 4000}, {Take: 3, To: 3, Gap: 3, Out: 2, Level: 4000}}, 250},
	} {
		if f, e := take.Headroom(l, c.p); e != api.OK || f != c.want {
			t.Errorf("%s: %d %d, not %d", c.name, f, e, c.want)
		}
	}
}

// P1.7
func TestHeadroomByDefinition(t *testing.T) {
	runs := 0
	eachProgramme(t, api.MaxSample, func(_ *rand.Rand, l []api.Take, p []api.Part) {
		if runs++; runs > 25 {
			return
		}
		want := wantedHeadroom(l, p)
		if f, e := take.Headroom(l, p); e != api.OK || f != want {
			t.Errorf("%d %d, not %d", f, e, want)
		}
	})
}

// P1.9
func TestPeakAndEnergy(t *testing.T) {
	for _, c := range []struct {
		name string
		s    []api.Sample
		peak api.Sample
		l, r int64
	}{
		{"none", nil, api.Sample{}, 0, 0},
		{"an empty list", []api.Sample{}, api.Sample{}, 0, 0},
		{"one", []api.Sample{{L: 3, R: -4}}, api.Sample{L: 3, R: 4}, 9, 16},
		{"the other way", []api.Sample{{L: -3, R: 4}}, api.Sample{L: 3, R: 4}, 9, 16},
		{"at different times", []api.Sample{{L: -7, R: 1}, {L: 2, R: -5}, {L: 6, R: 4}}, api.Sample{L: 7, R: 5}, 89, 42},
		{"at first and at last", []api.Sample{{L: 9}, {}, {R: 8}}, api.Sample{L: 9, R: 8}, 81, 64},
		{"the greatest", loudTake("a", api.MaxLong).Data, api.Sample{L: api.MaxSample, R: api.MaxSample}, api.MaxLong * api.MaxSample * api.MaxSample, api.MaxLong * api.MaxSample * api.MaxSample},
	} {
		if p, e := take.Peak(c.s); e != api.OK || p != c.peak {
			t.Errorf("%s: Peak: %v %d", c.name, p, e)
		}
		if l, r, e := take.Energy(c.s); e != api.OK || l != c.l || r != c.r {
			t.Errorf("%s: Energy: %d %d %d", c.name, l, r, e)
		}
	}
}

// P1.10
func TestSilences(t *testing.T) {
	s := []api.Sample{{}, {L: 5, R: -5}, {L: 6}, {R: 5}, {R: -6}, {L: -5}, {L: -6}, {L: 1, R: 6}, {}, {L: 5, R: 5}, {L: -5, R: -5}}
	loudest := loudTake("a", api.MaxLong).Data
	for _, c := range []struct {
		name  string
		s     []api.Sample
		limit int64
		least int
		want  [][2]int
	}{
		{"all", s, 5, 1, [][2]int{{0, 2}, {3, 4}, {5, 6}, {8, 11}}},
		{"two at least", s, 5, 2, [][2]int{{0, 2}, {8, 11}}},
		{"three at least", s, 5, 3, [][2]int{{8, 11}}},
		{"four at least", s, 5, 4, nil},
		{"without a limit", s, api.MaxSample, 1, [][2]int{{0, 11}}},
		{"just the whole", s, 6, 11, [][2]int{{0, 11}}},
		{"more than the whole", s, 6, 12, nil},
		{"the limit 0", s, 0, 1, [][2]int{{0, 1}, {8, 9}}},
		{"the limit 4", s, 4, 1, [][2]int{{0, 1}, {8, 9}}},
		{"the longest of loud samples", loudest, api.MaxSample, api.MaxLong, [][2]int{{0, api.MaxLong}}},
		{"none of loud samples", loudest, api.MaxSample - 1, 1, nil},
		{"no samples", nil, 0, 1, nil},
		{"an empty list", []api.Sample{}, api.MaxSample, api.MaxLong, nil},
	} {
		if q, e := take.Silences(c.s, c.limit, c.least); e != api.OK || !slices.Equal(q, c.want) {
			t.Errorf("%s: %v %d", c.name, q, e)
		}
	}
	for _, c := range []struct {
		limit int64
		least int
		want  api.Errno
	}{
		{0, 1, api.OK}, {api.MaxSample, api.MaxLong, api.OK},
		{-1, 1, api.ErrRange}, {api.MaxSample + 1, 1, api.ErrRange}, {-1 << 63, 1, api.ErrRange}, {1<<63 - 1, 1, api.ErrRange},
		{0, 0, api.ErrRange}, {0, -1, api.ErrRange}, {0, api.MaxLong + 1, api.ErrRange}, {0, -1 << 63, api.ErrRange}, {0, 1<<63 - 1, api.ErrRange},
	} {
		q, e := take.Silences(s, c.limit, c.least)
		if e != c.want || e != api.OK && len(q) != 0 {
			t.Errorf("the limit %d and the least length %d: %v %d", c.limit, c.least, q, e)
		}
	}
}
