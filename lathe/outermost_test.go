package lathe_test

import (
	"math/rand"
	"slices"
	"testing"

	"deadwax/api"
	"deadwax/lathe"
)

// P5.2, P5.6: the chapter's examples.
func TestOutermostExamples(t *testing.T) {
	if r := outermost(t, blank(), points()); !slices.Equal(r, radii()) {
		t.Errorf("Outermost: %v", r)
	}
	b := blank()
	if n := fits(t, b, points()); n != 5 {
		t.Errorf("Fits: %d", n)
	}
	b.Fast = 39
	if n := fits(t, b, points()); n != 3 {
		t.Errorf("Fits with Fast 39: %d", n)
	}
	b = blank()
	b.Core = 861
	if n := fits(t, b, points()); n != 4 {
		t.Errorf("Fits with Core 861: %d", n)
	}
}

// P5.2, P5.6: what fits just, and what does just not.
func TestOutermostAtEdges(t *testing.T) {
	for name, x := range map[string]struct {
		b    api.Blank
		l    []api.Point
		want []int64
		fits int
	}{
		"no points":                    {blank(), nil, nil, 0},
		"no room, and no points":       {api.Blank{Per: 1}, nil, nil, 0},
		"one point":                    {blank(), points()[:1], []int64{980}, 1},
		"one point with room for it":   {api.Blank{Per: 1, Rim: 40}, points()[:1], []int64{20}, 1},
		"one unit too wide":            {api.Blank{Per: 1, Rim: 39}, points()[:1], nil, 0},
		"a point turned round":         {api.Blank{Per: 1, Rim: 5, Core: 5}, []api.Point{{In: 3, Out: 2}}, []int64{3}, 1},
		"below the radius 0":           {api.Blank{Per: 1}, []api.Point{{In: 9, Out: 9}}, []int64{-9}, 1},
		"Slow down to the core":        {api.Blank{Per: 9, Rim: 9, Core: 3, Slow: 3, Fast: 3}, make([]api.Point, 3), []int64{9, 6, 3}, 3},
		"Slow beyond the core":         {api.Blank{Per: 9, Rim: 9, Core: 4, Slow: 3, Fast: 3}, make([]api.Point, 3), nil, 2},
		"a peak that is seen ahead":    {api.Blank{Per: 9, Rim: 90, Fast: 10}, []api.Point{{}, {}, {}, {Out: 25}}, []int64{90, 85, 75, 65}, 4},
		"a peak too far out":           {api.Blank{Per: 9, Rim: 90, Core: 76, Fast: 10}, []api.Point{{}, {}, {}, {In: 20, Out: 25}}, nil, 3},
		"a peak that the core permits": {api.Blank{Per: 9, Rim: 90, Core: 75, Fast: 10}, []api.Point{{}, {}, {In: 0}, {In: 20, Out: 25}}, []int64{90, 85, 75, 65}, 4},
		"land just at Fast":            {api.Blank{Per: 2, Rim: 90, Land: 10, Fast: 5}, make([]api.Point, 3), []int64{90, 85, 80}, 3},
		"land just beyond Fast":        {api.Blank{Per: 2, Rim: 90, Land: 11, Fast: 5}, make([]api.Point, 3), nil, 2},
		"a turn as long as the groove": {api.Blank{Per: 3, Rim: 90, Land: 99, Fast: 5}, make([]api.Point, 3), []int64{90, 90, 90}, 3},
		"turns of one sample":          {api.Blank{Per: 1, Rim: 90, Land: 2, Fast: 9}, slices.Repeat([]api.Point{{In: -1, Out: 3}}, 3), []int64{87, 81, 75}, 3},
		"valleys into which turns go":  {api.Blank{Per: 2, Rim: 90, Land: 1, Fast: 9}, []api.Point{{In: -5, Out: 0}, {}, {In: 0, Out: -4}, {}}, []int64{90, 90, 88, 88}, 4},
	} {
		want := api.OK
		if x.want == nil && len(x.l) > 0 {
			want = api.ErrPlan
		}
		if r, e := lathe.Outermost(x.b, x.l); e != want || !slices.Equal(r, x.want) {
			t.Errorf("%s: %v, %d, not %v, %d", name, r, e, x.want, want)
		}
		if n := fits(t, x.b, x.l); n != x.fits {
			t.Errorf("%s: %d fit, not %d", name, n, x.fits)
		}
	}
}

// cutsOf calls see for each cut that keeps the rules.
func cutsOf(b api.Blank, l []api.Point, see func([]int64)) {
	var more func(r []int64)
	more = func(r []int64) {
		i := len(r)
		if i == len(l) {
			see(r)
			return
		}
		for x := b.Core - l[i].In; x <= b.Rim-l[i].Out; x++ {
			next := append(slices.Clone(r), x)
			if _, rule := wantedBroken(b, l[:i+1], next); rule == 0 {
				more(next)
			}
		}
	}
	more(nil)
}

// P5.2, P5.8: of all cuts of small grooves none is anywhere farther out.
func TestOutermostOfAllCuts(t *testing.T) {
	r := rand.New(rand.NewSource(52))
	possible, refused := 0, 0
	for range 3000 {
		b := api.Blank{Per: 1 + r.Int63n(3), Rim: 4 + r.Int63n(8), Land: r.Int63n(2), Slow: r.Int63n(2)}
		b.Core = r.Int63n(3)
		b.Fast = b.Slow + r.Int63n(5)
		l := make([]api.Point, r.Intn(5))
		for i := range l {
			l[i] = api.Point{In: r.Int63n(4) - 2, Out: r.Int63n(5) - 1}
		}
		n := 0
		most := slices.Repeat([]int64{-100}, len(l))
		cutsOf(b, l, func(cut []int64) {
			n++
			for i, x := range cut {
				most[i] = max(most[i], x)
			}
		})
		got, e := lathe.Outermost(b, l)
		if n == 0 {
			refused++
			if len(got) != 0 || e != api.ErrPlan {
				t.Fatalf("%v on %v, which does not fit: %v, %d", l, b, got, e)
			}
			continue
		}
		possible++
		if !slices.Equal(got, most) || e != api.OK {
			t.Fatalf("%v on %v: %v, %d, not %v", l, b, got, e, most)
		}
	}
	if possible < 1000 || refused < 300 {
		t.Errorf("only %d grooves fit, and %d do not", possible, refused)
	}
}

// P5.2, P5.6, P5.8
func TestOutermostByDefinition(t *testing.T) {
	r := rand.New(rand.NewSource(56))
	whole, part := 0, 0
	for range 20000 {
		b, l := someBlank(r), someGroove(r, r.Intn(16))
		want, ok := wantedOutermost(b, l)
		got, e := lathe.Outermost(b, l)
		if ok != (e == api.OK) || !ok && e != api.ErrPlan || !slices.Equal(got, want) {
			t.Fatalf("%v on %v: %v, %d, not %v", l, b, got, e, want)
		}
		if ok {
			checkBroken(t, "the outermost cut", b, l, got, 0, 0)
		}
		n := wantedFits(b, l)
		if got := fits(t, b, l); got != n {
			t.Fatalf("%v on %v: %d fit, not %d", l, b, got, n)
		}
		if n == len(l) && n > int(b.Per)+1 {
			whole++
		}
		if n < len(l) && n > int(b.Per)+1 {
			part++
		}
	}
	if whole < 1000 || part < 1000 {
		t.Errorf("only %d grooves fit, and %d do later not", whole, part)
	}
}

// farOut reports whether a cut is nowhere farther in than another one.
func farOut(a, b []int64) bool {
	for i, x := range a {
		if x < b[i] {
			return false
		}
	}
	return true
}

// fitting calls see for many grooves that fit on blanks.
func fitting(t *testing.T, seed int64, see func(*rand.Rand, api.Blank, []api.Point, []int64)) {
	t.Helper()
	r := rand.New(rand.NewSource(seed))
	n := 0
	for range 20000 {
		b, l := someBlank(r), someGroove(r, r.Intn(14))
		if cut, e := lathe.Outermost(b, l); e == api.OK && len(l) > 0 {
			n++
			see(r, b, l, cut)
		}
	}
	if n < 3000 {
		t.Errorf("only %d grooves fit", n)
	}
}

// P5.10
func TestLandsAndPitches(t *testing.T) {
	fitting(t, 510, func(_ *rand.Rand, b api.Blank, l []api.Point, cut []int64) {
		for i := range l {
			if cut[i]+l[i].Out > b.Rim || cut[i]+l[i].In < b.Core {
				t.Fatalf("%v on %v: %v is too far out or in at %d", l, b, cut, i)
			}
		}
		for i := int(b.Per); i < len(l); i++ {
			if n, e := lathe.Land(b, l, cut, i); n < b.Land || e != api.OK {
				t.Fatalf("%v on %v: %v has the land %d, %d at %d", l, b, cut, n, e, i)
			}
			if pitch := cut[i-int(b.Per)] - cut[i]; pitch < b.Per*b.Slow || pitch > b.Per*b.Fast {
				t.Fatalf("%v on %v: %v has the pitch %d at %d", l, b, cut, pitch, i)
			}
		}
	})
}

// P5.11
func TestPrefixes(t *testing.T) {
	fitting(t, 511, func(_ *rand.Rand, b api.Blank, l []api.Point, cut []int64) {
		if n := fits(t, b, l); n != len(l) {
			t.Fatalf("%v on %v: only %d fit", l, b, n)
		}
		for n := range l {
			if r := outermost(t, b, l[:n]); !farOut(r, cut) {
				t.Fatalf("the first %d of %v on %v: %v is farther in than %v", n, l, b, r, cut)
			}
		}
	})
}

// P5.11: what does not fit, fits just as far as Fits says.
func TestFitsAndNoMore(t *testing.T) {
	r := rand.New(rand.NewSource(611))
	part := 0
	for range 10000 {
		b, l := someBlank(r), someGroove(r, r.Intn(16))
		n := fits(t, b, l)
		outermost(t, b, l[:n])
		for k := n + 1; k <= len(l); k++ {
			part++
			if _, e := lathe.Outermost(b, l[:k]); e != api.ErrPlan {
				t.Fatalf("%v on %v: %d fit, and %d: %d", l, b, n, k, e)
			}
		}
	}
	if part < 10000 {
		t.Errorf("only %d beginnings did not fit", part)
	}
}

// P5.12
func TestNarrower(t *testing.T) {
	fitting(t, 512, func(r *rand.Rand, b api.Blank, l []api.Point, cut []int64) {
		narrow := slices.Clone(l)
		for i := range narrow {
			narrow[i].In += r.Int63n(3) * r.Int63n(3)
			narrow[i].Out -= r.Int63n(3) * r.Int63n(3)
		}
		if more := outermost(t, b, narrow); !farOut(more, cut) {
			t.Fatalf("%v in %v on %v: %v is farther in than %v", narrow, l, b, more, cut)
		}
	})
}

// P5.13
func TestMoved(t *testing.T) {
	fitting(t, 513, func(r *rand.Rand, b api.Blank, l []api.Point, cut []int64) {
		by := r.Int63n(1000)
		moved := b
		moved.Rim, moved.Core = b.Rim+by, b.Core+by
		for i, x := range outermost(t, moved, l) {
			if x != cut[i]+by {
				t.Fatalf("%v on %v, moved by %d: %d at %d", l, b, by, x, i)
			}
		}
		for name, change := range map[string]func(*api.Blank){
			"Rim":  func(b *api.Blank) { b.Rim += by },
			"Core": func(b *api.Blank) { b.Core -= min(by, b.Core) },
			"Land": func(b *api.Blank) { b.Land -= min(by, b.Land) },
			"Slow": func(b *api.Blank) { b.Slow -= min(by, b.Slow) },
			"Fast": func(b *api.Blank) { b.Fast += by },
		} {
			other := b
			change(&other)
			if n := fits(t, other, l); n != len(l) {
				t.Fatalf("%v on %v, and on %v with another %s: %d", l, b, other, name, n)
			}
		}
	})
}

// P5.13: what does not fit whole, does not fit elsewhere.
func TestFitsMoved(t *testing.T) {
	r := rand.New(rand.NewSource(613))
	for range 5000 {
		b, l := someBlank(r), someGroove(r, r.Intn(16))
		n := fits(t, b, l)
		b.Rim, b.Core = b.Rim+77, b.Core+77
		if moved := fits(t, b, l); moved != n {
			t.Fatalf("%v on %v: %d fit, not %d", l, b, moved, n)
		}
	}
}

// P5.2, P5.6: grooves of 4,096 points.
func TestLongGrooves(t *testing.T) {
	const n = api.MaxLong
	flat := make([]api.Point, n)
	b := api.Blank{Per: 1, Rim: api.MaxRadius, Land: 1024, Fast: 1024}
	for i, x := range outermost(t, b, flat) {
		if x != api.MaxRadius-1024*int64(i) {
			t.Fatalf("full to the core: %d at %d", x, i)
		}
	}
	b.Core = 1024
	if got := fits(t, b, flat); got != n {
		t.Errorf("full to the core: %d fit", got)
	}
	b.Core = 1025
	if got := fits(t, b, flat); got != n-1 {
		t.Errorf("a unit beyond the core: %d fit", got)
	}
	b.Fast = 1023
	if got := fits(t, b, flat); got != 1 {
		t.Errorf("too slow for the land: %d fit", got)
	}
	rising := make([]api.Point, n)
	for i := range rising {
		rising[i].Out = int64(i)
	}
	b = api.Blank{Per: n, Rim: n}
	for i, x := range outermost(t, b, rising) {
		if x != 1 {
			t.Fatalf("a groove that cannot go inwards: %d at %d", x, i)
		}
	}
	b = api.Blank{Per: n - 1, Rim: n, Land: api.MaxLand, Fast: api.MaxInward}
	if got := fits(t, b, flat); got != n-1 {
		t.Errorf("no room for the land of the last point: %d fit", got)
	}
	b.Land = n
	if r := outermost(t, b, flat); r[n-2] != n || r[n-1] != 0 {
		t.Errorf("just room for it: %d and %d", r[n-2], r[n-1])
	}
}
