package groove_test

import (
	"math/rand"
	"slices"
	"testing"

	"deadwax/api"
	"deadwax/groove"
)

// P3.2, P3.3: the chapter's examples.
func TestWallExamples(t *testing.T) {
	for _, x := range []struct {
		s api.Sample
		p api.Point
	}{
		{api.Sample{L: 100, R: 100}, api.Point{In: -200, Out: 600}},
		{api.Sample{L: 100, R: -100}, api.Point{In: -600, Out: 600}},
	} {
		if p, e := groove.Wall(cutter(), x.s); e != api.OK || p != x.p {
			t.Errorf("Wall of %v: %v, %d", x.s, p, e)
		}
		if s, e := groove.Back(cutter(), x.p); e != api.OK || s != x.s {
			t.Errorf("Back of %v: %v, %d", x.p, s, e)
		}
	}
	if s, e := groove.Back(cutter(), api.Point{In: -201, Out: 600}); e != api.ErrNone || s != (api.Sample{}) {
		t.Errorf("Back of a point between: %v, %d", s, e)
	}
}

// P3.2: what is rounded, and what is at a limit.
func TestWall(t *testing.T) {
	for _, x := range []struct {
		half, gain int64
		s          api.Sample
		want       api.Point
	}{
		{1, 0, api.Sample{L: api.MaxSample, R: -api.MaxSample}, api.Point{In: -1, Out: 1}},
		{10, 500, api.Sample{L: 3, R: -3}, api.Point{In: -11, Out: 11}},
		{10, 500, api.Sample{L: -3, R: 3}, api.Point{In: -9, Out: 9}},
		{10, 999, api.Sample{L: 1, R: -1}, api.Point{In: -10, Out: 10}},
		{10, 1000, api.Sample{L: -1, R: 1}, api.Point{In: -9, Out: 9}},
		{10, 1, api.Sample{L: -999, R: 1000}, api.Point{In: -9, Out: 10}},
		{10, 100000, api.Sample{L: -7}, api.Point{In: -10, Out: -690}},
		{api.MaxHalf, api.MaxGain, api.Sample{L: api.MaxSample, R: -api.MaxSample}, api.Point{In: -3280796, Out: 3280796}},
	} {
		c := api.Cutter{Half: x.half, Gain: x.gain}
		if p, e := groove.Wall(c, x.s); e != api.OK || p != x.want {
			t.Errorf("Wall of %v with the half %d and the gain %d: %v, %d, not %v", x.s, x.half, x.gain, p, e, x.want)
		}
	}
}

// P3.2
func TestWallErrors(t *testing.T) {
	for _, s := range loudSamples() {
		if p, e := groove.Wall(cutter(), s); e != api.ErrArg || p != (api.Point{}) {
			t.Errorf("%v: %v, %d", s, p, e)
		}
	}
	for _, c := range invalidCutters() {
		if p, e := groove.Wall(c, api.Sample{L: 1}); e != api.ErrArg || p != (api.Point{}) {
			t.Errorf("%v: %v, %d", c, p, e)
		}
	}
}

// P3.2
func TestCutByDefinition(t *testing.T) {
	r := rand.New(rand.NewSource(32))
	for range 3000 {
		c := anyCutter(r)
		s := programme(r, r.Intn(6), pick(r, 3, 1000, api.MaxSample))
		l := cut(t, c, s...)
		for i, x := range s {
			want := wantedWall(c, x)
			if p, e := groove.Wall(c, x); e != api.OK || p != want || l[i] != want {
				t.Fatalf("%v by %v: %v, %d, and %v, not %v", x, c, p, e, l[i], want)
			}
		}
		if e := groove.CheckPoints(l); e != api.OK {
			t.Fatalf("%v by %v is no groove: %d", s, c, e)
		}
	}
}

// P3.2
func TestCutMany(t *testing.T) {
	for _, s := range [][]api.Sample{nil, {}} {
		if l, e := groove.Cut(cutter(), s); e != api.OK || len(l) != 0 {
			t.Errorf("nothing: %v, %d", l, e)
		}
	}
	s := slices.Repeat([]api.Sample{{L: 3, R: -3}}, api.MaxLong)
	if l := cut(t, cutter(), s...); l[api.MaxLong-1] != (api.Point{In: -406, Out: 406}) {
		t.Errorf("the last one of 4,096: %v", l[api.MaxLong-1])
	}
	if l, e := groove.Cut(cutter(), make([]api.Sample, api.MaxLong+1)); e != api.ErrMany || len(l) != 0 {
		t.Errorf("4,097: %d", e)
	}
}

// P3.3
func TestBack(t *testing.T) {
	for _, x := range []struct {
		name       string
		half, gain int64
		p          api.Point
		want       api.Sample
		e          api.Errno
	}{
		{"silence", 400, 2000, api.Point{In: -400, Out: 400}, api.Sample{}, api.OK},
		{"outer between", 400, 2000, api.Point{In: -400, Out: 401}, api.Sample{}, api.ErrNone},
		{"inner between", 400, 2000, api.Point{In: -399, Out: 400}, api.Sample{}, api.ErrNone},
		{"both between", 400, 2000, api.Point{In: -399, Out: 401}, api.Sample{}, api.ErrNone},
		{"the loudest", 1, 1000, api.Point{In: -api.MaxSample - 1, Out: api.MaxSample + 1}, api.Sample{L: api.MaxSample, R: -api.MaxSample}, api.OK},
		{"the loudest, turned", 1, 1000, api.Point{In: api.MaxSample - 1, Out: 1 - api.MaxSample}, api.Sample{L: -api.MaxSample, R: api.MaxSample}, api.OK},
		{"outer too loud", 1, 1000, api.Point{In: -1, Out: api.MaxSample + 2}, api.Sample{}, api.ErrNone},
		{"outer too loud below 0", 1, 1000, api.Point{In: -1, Out: -api.MaxSample}, api.Sample{}, api.ErrNone},
		{"inner too loud", 1, 1000, api.Point{In: api.MaxSample, Out: 1}, api.Sample{}, api.ErrNone},
		{"inner too loud below 0", 1, 1000, api.Point{In: -api.MaxSample - 2, Out: 1}, api.Sample{}, api.ErrNone},
		{"no gain", 5, 0, api.Point{In: -5, Out: 5}, api.Sample{}, api.OK},
		{"no gain, outer moved", 5, 0, api.Point{In: -5, Out: 6}, api.Sample{}, api.ErrNone},
		{"no gain, inner moved", 5, 0, api.Point{In: -6, Out: 5}, api.Sample{}, api.ErrNone},
		{"several samples", 10, 300, api.Point{In: -11, Out: 11}, api.Sample{L: 4, R: -4}, api.OK},
		{"several samples, turned", 10, 300, api.Point{In: -9, Out: 9}, api.Sample{L: -4, R: 4}, api.OK},
		{"several samples, of which some are too loud", 1, 1, api.Point{In: -33, Out: 33}, api.Sample{L: 32000, R: -32000}, api.OK},
		{"an unusual gain", 1, 1500, api.Point{In: 0, Out: 2}, api.Sample{L: 1, R: 1}, api.OK},
		{"what this gain leaves out", 1, 1500, api.Point{In: 0, Out: 3}, api.Sample{}, api.ErrNone},
		{"edges at their limits", api.MaxHalf, api.MaxGain, api.Point{In: -api.MaxEdge, Out: api.MaxEdge}, api.Sample{}, api.ErrNone},
		{"edges at their limits, turned", api.MaxHalf, 1, api.Point{In: api.MaxEdge, Out: -api.MaxEdge}, api.Sample{}, api.ErrNone},
	} {
		c := api.Cutter{Half: x.half, Gain: x.gain}
		if s, e := groove.Back(c, x.p); e != x.e || s != x.want {
			t.Errorf("%s: %v, %d, not %v, %d", x.name, s, e, x.want, x.e)
		}
	}
}

// P3.3
func TestBackErrors(t *testing.T) {
	for _, p := range farPoints() {
		if s, e := groove.Back(cutter(), p); e != api.ErrArg || s != (api.Sample{}) {
			t.Errorf("%v: %v, %d", p, s, e)
		}
	}
	for _, c := range invalidCutters() {
		if s, e := groove.Back(c, api.Point{In: -200, Out: 600}); e != api.ErrArg || s != (api.Sample{}) {
			t.Errorf("%v: %v, %d", c, s, e)
		}
	}
}

// leastChannels returns, for each place of an outer edge, the left channel with the least amount that cuts it there.
func leastChannels(c api.Cutter) map[int64]int64 {
	m := map[int64]int64{}
	for x := int64(api.MaxSample); x >= 0; x-- {
		m[wantedWall(c, api.Sample{L: x}).Out] = x
		m[wantedWall(c, api.Sample{L: -x}).Out] = -x
	}
	return m
}

// P3.3: all samples are looked at for each place of an edge.
func TestBackByDefinition(t *testing.T) {
	r := rand.New(rand.NewSource(33))
	for _, gain := range []int64{0, 1, 7, 333, 999, 1000, 1001, 2500, 3333, api.MaxGain} {
		c := api.Cutter{Half: 1 + r.Int63n(50), Gain: gain}
		m := leastChannels(c)
		farthest := wantedWall(c, api.Sample{L: api.MaxSample}).Out - c.Half
		for i := range int64(3000) {
			far := pick(r, i/2, -i/2, farthest-i/3, i/3-farthest, r.Int63n(2*farthest+1)-farthest)
			left, found := m[c.Half+far]
			s, e := groove.Back(c, api.Point{In: -c.Half, Out: c.Half + far})
			if found != (e == api.OK) || s != (api.Sample{L: left}) || !found && e != api.ErrNone {
				t.Fatalf("the outer edge %d, with the gain %d: %v, %d, not %d", far, gain, s, e, left)
			}
			s, e = groove.Back(c, api.Point{In: far - c.Half, Out: c.Half})
			if found != (e == api.OK) || s != (api.Sample{R: left}) || !found && e != api.ErrNone {
				t.Fatalf("the inner edge %d, with the gain %d: %v, %d, not %d", far, gain, s, e, left)
			}
		}
	}
}

// P3.8
func TestOneWallOneChannel(t *testing.T) {
	r := rand.New(rand.NewSource(38))
	for range 2000 {
		c := anyCutter(r)
		s := programme(r, 5, pick(r, 3, 1000, api.MaxSample))
		var lefts, rights, equal, opposite []api.Sample
		for i, x := range s {
			lefts = append(lefts, api.Sample{L: x.L, R: s[4-i].R})
			rights = append(rights, api.Sample{L: s[4-i].L, R: x.R})
			equal = append(equal, api.Sample{L: x.L, R: x.L})
			opposite = append(opposite, api.Sample{L: x.L, R: -x.L})
		}
		whole, outer, inner := cut(t, c, s...), cut(t, c, lefts...), cut(t, c, rights...)
		mono, stereo := cut(t, c, equal...), cut(t, c, opposite...)
		for i := range s {
			if outer[i].Out != whole[i].Out || inner[i].In != whole[i].In {
				t.Fatalf("%v by %v: %v, but %v and %v", s, c, whole, outer, inner)
			}
			if mono[i].Out-mono[i].In != 2*c.Half {
				t.Fatalf("%v by %v: %v", equal, c, mono)
			}
			if stereo[i].In != -stereo[i].Out {
				t.Fatalf("%v by %v: %v", opposite, c, stereo)
			}
		}
	}
}

// P3.9, and G1: what was cut is read back from its groove.
func TestBackOfAWall(t *testing.T) {
	r := rand.New(rand.NewSource(39))
	for range 5000 {
		c := anyCutter(r)
		c.Gain = pick(r, c.Gain, r.Int63n(1000), 1000)
		s := programme(r, 1, pick(r, 3, 1000, api.MaxSample))[0]
		p := cut(t, c, s)[0]
		back, e := groove.Back(c, p)
		if e != api.OK || cut(t, c, back)[0] != p {
			t.Fatalf("Back of %v, cut of %v by %v: %v, %d", p, s, c, back, e)
		}
		if amount(back.L) > amount(s.L) || amount(back.R) > amount(s.R) {
			t.Fatalf("Back of %v, cut of %v by %v, is louder: %v", p, s, c, back)
		}
		if c.Gain >= 1000 && back != s {
			t.Fatalf("Back of %v, cut of %v by %v: %v", p, s, c, back)
		}
	}
}
