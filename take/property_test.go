package take_test

import (
	"math/rand"
	"slices"
	"testing"

	"deadwax/api"
	"deadwax/take"
)

// P1.12
func TestWhatSounds(t *testing.T) {
	eachProgramme(t, 4000, func(_ *rand.Rand, l []api.Take, p []api.Part) {
		for at, want := range render(t, l, p) {
			sources, e := take.Sources(l, p, at)
			if e != api.OK {
				t.Errorf("Sources at %d: %d", at, e)
			}
			var sum api.Sample
			for _, x := range sources {
				s, e := take.Sound(l, p, x.Part, x.Index-p[x.Part].From)
				if e != api.OK || x.Take != p[x.Part].Take {
					t.Errorf("Sound of %v: %d", x, e)
				}
				sum = api.Sample{L: sum.L + s.L, R: sum.R + s.R}
			}
			if sum != want {
				t.Errorf("at %d: %v, not %v", at, sum, want)
			}
		}
	})
}

// P1.13
func TestJoined(t *testing.T) {
	eachProgramme(t, 4000, func(r *rand.Rand, l []api.Take, p []api.Part) {
		q := someParts(r, l, 3)
		if len(q) == 0 {
			return
		}
		g := r.Intn(4)
		q[0].Gap = 0
		if !wantedPossible(q) {
			return
		}
		want := append(render(t, l, p), make([]api.Sample, g)...)
		want = append(want, render(t, l, q)...)
		q[0].Gap = g
		if s := render(t, l, append(slices.Clone(p), q...)); !slices.Equal(s, want) {
			t.Errorf("followed by %+v: %v, not %v", q, s, want)
		}
	})
}

// P1.14
func TestSplitIsRenderedAsTheWhole(t *testing.T) {
	eachProgramme(t, 4000, func(_ *rand.Rand, l []api.Take, p []api.Part) {
		whole := render(t, l, p)
		for at := range len(whole) + 1 {
			a, b, e := take.Split(l, p, at)
			if e == api.ErrState {
				continue
			}
			s := render(t, l, a)
			s = append(s, make([]api.Sample, at-len(s))...)
			s = append(s, render(t, l, b)...)
			if e != api.OK || !slices.Equal(s, whole) {
				t.Errorf("at %d: %v %d, not %v", at, s, e, whole)
			}
		}
	})
}

// P1.15
func TestPlain(t *testing.T) {
	eachProgramme(t, api.MaxSample, func(_ *rand.Rand, l []api.Take, p []api.Part) {
		for i, x := range p {
			silent, plain := slices.Clone(p), slices.Clone(p)
			silent[i].Level = 0
			plain[i].Level, plain[i].In, plain[i].Out = 1000, 0, 0
			for k := range x.To - x.From {
				source := l[x.Take].Data[x.From+k]
				if s, e := take.Sound(l, silent, i, k); e != api.OK || s != (api.Sample{}) {
					t.Errorf("with the level 0: %v %d", s, e)
				}
				if s, e := take.Sound(l, plain, i, k); e != api.OK || s != source {
					t.Errorf("with the level 1,000: %v %d, not %v", s, e, source)
				}
				s, e := take.Sound(l, p, i, k)
				if e != api.OK || 1000*amount(s.L) > amount(source.L)*x.Level || 1000*amount(s.R) > amount(source.R)*x.Level {
					t.Errorf("the sample %d of the part %d: %v %d is more than %v at its level", k, i, s, e, source)
				}
			}
		}
	})
}

// P1.16
func TestCrossfades(t *testing.T) {
	r := rand.New(rand.NewSource(6))
	for range 300 {
		n := 2 + r.Intn(60)
		if r.Intn(20) == 0 {
			n = 2000 + r.Intn(2000)
		}
		l := []api.Take{{Name: "a", Data: someSamples(r, n, []int64{3, 50, api.MaxSample}[r.Intn(3)])}}
		m := 1 + r.Intn(min(n, api.MaxFade))
		from := r.Intn(n - m + 1)
		p := []api.Part{{To: from + m, Out: m, Level: 1000}, {From: from, To: n, Gap: -m, In: m, Level: 1000}}
		s, e := take.Render(l, p)
		if e != api.OK || len(s) != n {
			t.Fatalf("%+v: %d samples, %d", p, len(s), e)
		}
		for i, x := range s {
			want := l[0].Data[i]
			common := from <= i && i < from+m
			if !near(x.L, want.L) || !near(x.R, want.R) || !common && x != want {
				t.Fatalf("%+v at %d: %v, not %v", p, i, x, want)
			}
		}
	}
}

// near reports whether x differs from want by at most 1, and has no greater amount.
func near(x, want int64) bool { return amount(want-x) <= 1 && amount(x) <= amount(want) }

// P1.17
func TestRenderedWithinTheHeadroom(t *testing.T) {
	eachProgramme(t, api.MaxSample, func(r *rand.Rand, l []api.Take, p []api.Part) {
		for i := range p {
			p[i].Level = p[i].Level*r.Int63n(1001)/1000 + 1
			p[i].Level = min(p[i].Level, api.MaxLevel)
		}
		f, e := take.Headroom(l, p)
		if e != api.OK {
			t.Errorf("Headroom: %d", e)
		}
		for _, g := range []int64{f, f - 1, f / 2, f / 3, 1, 0} {
			q := scaled(p, max(g, 0))
			if slices.ContainsFunc(q, func(x api.Part) bool { return x.Level > api.MaxLevel }) {
				continue
			}
			if _, e := take.Render(l, q); e != api.OK {
				t.Errorf("with %d of the headroom %d: %d", g, f, e)
			}
		}
		if f == api.MaxLevel {
			return
		}
		if _, amounts := wantedSums(l, scaled(p, f+1)); !loud(amounts) {
			t.Errorf("the headroom %d is not the greatest", f)
		}
	})
}

// mirrored changes each sample of all takes.
func mirrored(l []api.Take, f func(api.Sample) api.Sample) []api.Take {
	m := copyTakes(l)
	for i := range m {
		for k, s := range m[i].Data {
			m[i].Data[k] = f(s)
		}
	}
	return m
}

// P1.18
func TestMirrored(t *testing.T) {
	mirrors := map[string]func(api.Sample) api.Sample{
		"exchanged": func(s api.Sample) api.Sample { return api.Sample{L: s.R, R: s.L} },
		"opposite":  func(s api.Sample) api.Sample { return api.Sample{L: -s.L, R: -s.R} },
	}
	eachProgramme(t, api.MaxSample, func(_ *rand.Rand, l []api.Take, p []api.Part) {
		s, e := take.Render(l, p)
		f, _ := take.Headroom(l, p)
		for name, mirror := range mirrors {
			m := mirrored(l, mirror)
			want := slices.Clone(s)
			for i := range want {
				want[i] = mirror(want[i])
			}
			if x, again := take.Render(m, p); again != e || !slices.Equal(x, want) {
				t.Errorf("%s: %v %d, not %v %d", name, x, again, want, e)
			}
			if g, e := take.Headroom(m, p); e != api.OK || g != f {
				t.Errorf("%s: the headroom %d %d, not %d", name, g, e, f)
			}
		}
	})
}

// P1.20, and P1.10 for each least length.
func TestSilencesProperties(t *testing.T) {
	r := rand.New(rand.NewSource(7))
	for range 500 {
		s := someSamples(r, r.Intn(40), 6)
		for limit := int64(0); limit <= 6; limit++ {
			all, e := take.Silences(s, limit, 1)
			if e != api.OK {
				t.Fatalf("%v: %d", s, e)
			}
			lies := make([]int, len(s))
			for i, q := range all {
				if i > 0 && q[0] <= all[i-1][1] {
					t.Fatalf("%v, the limit %d: %v are not the longest, or not in order", s, limit, all)
				}
				for k := q[0]; k < q[1]; k++ {
					lies[k]++
				}
			}
			for i, x := range s {
				want := 0
				if amount(x.L) <= limit && amount(x.R) <= limit {
					want = 1
				}
				if lies[i] != want {
					t.Fatalf("%v, the limit %d: %v has the sample %d %d times", s, limit, all, i, lies[i])
				}
			}
			for least := 2; least < 5; least++ {
				want := slices.DeleteFunc(slices.Clone(all), func(q [2]int) bool { return q[1]-q[0] < least })
				if q, e := take.Silences(s, limit, least); e != api.OK || !slices.Equal(q, want) {
					t.Fatalf("%v, the limit %d, %d at least: %v %d, not %v", s, limit, least, q, e, want)
				}
			}
			greater, _ := take.Silences(s, limit+1, 1)
			for _, q := range all {
				if !slices.ContainsFunc(greater, func(g [2]int) bool { return g[0] <= q[0] && q[1] <= g[1] }) {
					t.Fatalf("%v, the limit %d: %v lies in none of %v", s, limit+1, q, greater)
				}
			}
		}
	}
}

// R5: a result that is changed changes neither an argument nor a later result. (R10)
func TestResultsOwnMemory(t *testing.T) {
	eachProgramme(t, 4000, func(_ *rand.Rand, l []api.Take, p []api.Part) {
		takes, parts := copyTakes(l), slices.Clone(p)
		s := render(t, l, p)
		kept := slices.Clone(s)
		clear(s)
		starts, _, _ := take.Starts(l, p)
		clear(starts)
		text, _ := take.Text(l, p)
		read, _ := take.Parse(l, text)
		clear(read)
		if len(kept) > 0 {
			sources, _ := take.Sources(l, p, 0)
			clear(sources)
		}
		take.Headroom(l, p)
		if !slices.Equal(p, parts) || !slices.EqualFunc(l, takes, sameTake) {
			t.Errorf("an argument was changed")
		}
		if again := render(t, l, p); !slices.Equal(again, kept) {
			t.Errorf("rendered again: %v, not %v", again, kept)
		}
	})
}
