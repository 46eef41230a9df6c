package play_test

import (
	"math"
	"math/rand"
	"testing"

	"deadwax/api"
	layer3 "deadwax/groove"
	"deadwax/play"
)

// louder returns all channels, and for each the edge that it moves, by its distance from where it is without a signal.
func louder(c api.Cutter) (channels, edges []int64) {
	for x := int64(-api.MaxSample); x <= api.MaxSample; x++ {
		channels = append(channels, x)
		edges = append(edges, x*c.Gain/1000) // rounded toward 0
	}
	return channels, edges
}

// wantedChannels looks at all channels.
func wantedChannels(channels, edges []int64, rest int64, h api.Extent) (api.Extent, bool) {
	found := false
	var x api.Extent
	for i, far := range edges {
		if edge := rest + far; edge < h.Lo || edge > h.Hi {
			continue
		}
		if !found {
			x.Lo = channels[i]
		}
		x.Hi, found = channels[i], true
	}
	return x, found
}

func checkChannels(t *testing.T, name string, c api.Cutter, h api.Heard, left, right api.Extent, want api.Errno) {
	t.Helper()
	if l, r, e := play.Channels(c, h); l != left || r != right || e != want {
		t.Errorf("%s: Channels of %v: %v, %v, %d, not %v, %v, %d", name, h, l, r, e, left, right, want)
	}
}

// P6.5: what lies in extents, and where they end.
func TestChannels(t *testing.T) {
	none, all := api.Extent{}, api.Extent{Lo: -api.MaxSample, Hi: api.MaxSample}
	// 3 is the edge of 2, 4 that of 3, 6 that of 4; -4 is that of -3, -3 of -2, -1 of -1, 0 of 0, 1 of 1
	checkChannels(t, "some", cutter(), heard(-104, -99, 103, 106), api.Extent{Lo: 2, Hi: 4}, api.Extent{Lo: -3, Hi: 1}, api.OK)
	checkChannels(t, "others", cutter(), heard(-103, -100, 102, 107), api.Extent{Lo: 2, Hi: 5}, api.Extent{Lo: -2, Hi: 0}, api.OK)
	checkChannels(t, "silence", cutter(), heard(-100, -100, 100, 100), none, none, api.OK)
	checkChannels(t, "none on the left", cutter(), heard(-100, -100, 105, 105), none, none, api.ErrNone)
	checkChannels(t, "none on the right", cutter(), heard(-102, -102, 100, 100), none, none, api.ErrNone)
	checkChannels(t, "all", cutter(), heard(math.MinInt64, math.MaxInt64, math.MinInt64, math.MaxInt64), all, all, api.OK)
	c := cutter()
	c.Gain = api.MaxGain
	// the loudest channels move their edges by 3,276,700
	checkChannels(t, "the loudest", c, heard(-3276800, -3276800, 3276800, 3276800), api.Extent{Lo: api.MaxSample, Hi: api.MaxSample}, api.Extent{Lo: -api.MaxSample, Hi: -api.MaxSample}, api.OK)
	checkChannels(t, "just all", c, heard(-3276800, 3276600, -3276600, 3276800), all, all, api.OK)
	for _, h := range []api.Extent{{Lo: 3276801, Hi: math.MaxInt64}, {Lo: math.MinInt64, Hi: -3276801}, {Lo: math.MaxInt64, Hi: math.MaxInt64}, {Lo: math.MinInt64, Hi: math.MinInt64}} {
		checkChannels(t, "too far on the left", c, api.Heard{In: api.Extent{Lo: -100, Hi: -100}, Out: h}, none, none, api.ErrNone)
		checkChannels(t, "too far on the right", c, api.Heard{In: h, Out: api.Extent{Lo: 100, Hi: 100}}, none, none, api.ErrNone)
	}
	c.Gain = 0
	checkChannels(t, "no gain", c, heard(-100, -100, 100, 100), all, all, api.OK)
	checkChannels(t, "no gain, and more", c, heard(-900, 900, -900, 900), all, all, api.OK)
	checkChannels(t, "no gain, and another edge", c, heard(-100, -100, 101, 900), none, none, api.ErrNone)
}

// P6.5: the errors come in their order.
func TestErrorsOfChannels(t *testing.T) {
	none := api.Extent{}
	for _, h := range []api.Heard{heard(1, 0, 0, 0), heard(0, 0, 1, 0), heard(0, 0, math.MaxInt64, math.MinInt64), heard(math.MinInt64+1, math.MinInt64, 100, 100), heard(0, -1, 105, 105)} {
		checkChannels(t, "turned round", cutter(), h, none, none, api.ErrArg)
	}
	for _, c := range []api.Cutter{{}, {Half: -1}, {Half: 1, Gain: api.MaxGain + 1}, {Half: 1, Thin: 1}} {
		checkChannels(t, "no cutter", c, heard(-100, -100, 100, 100), none, none, api.ErrArg)
		checkChannels(t, "no cutter, and none there", c, heard(5, 5, 5, 5), none, none, api.ErrArg)
	}
}

// anyExtent returns an extent near the edges of channels, often of one number.
func anyExtent(r *rand.Rand, rest int64, edges []int64) api.Extent {
	lo := rest + edges[r.Intn(len(edges))] + r.Int63n(5) - 2
	return api.Extent{Lo: lo, Hi: lo + upTo(r, 0, 1+r.Int63n(3000))}
}

// P6.5: for cutters of all kinds.
func TestChannelsByDefinition(t *testing.T) {
	r := rand.New(rand.NewSource(655))
	none := 0
	for _, gain := range []int64{0, 1, 7, 500, 999, 1000, 1001, 1500, 2000, 33333, api.MaxGain} {
		c := api.Cutter{Half: 1 + r.Int63n(api.MaxHalf), Gain: gain}
		channels, edges := louder(c)
		for range 40 {
			h := api.Heard{In: anyExtent(r, -c.Half, edges), Out: anyExtent(r, c.Half, edges)}
			left, leftFound := wantedChannels(channels, edges, c.Half, h.Out)
			right, rightFound := wantedChannels(channels, edges, -c.Half, h.In)
			if !leftFound || !rightFound {
				none++
				checkChannels(t, "none", c, h, api.Extent{}, api.Extent{}, api.ErrNone)
				continue
			}
			checkChannels(t, "some", c, h, left, right, api.OK)
		}
	}
	if none < 50 || none > 390 {
		t.Errorf("%d extents have no channels", none)
	}
}

// P6.13: the channels of a point are among those of extents in which it lies; of a single point they are what Back returns.
func TestChannelsOfPoints(t *testing.T) {
	r := rand.New(rand.NewSource(613))
	for range 5000 {
		c := api.Cutter{Half: 1 + r.Int63n(api.MaxHalf), Gain: upTo(r, 0, api.MaxGain)}
		s := api.Sample{L: upTo(r, -api.MaxSample, api.MaxSample), R: upTo(r, -api.MaxSample, api.MaxSample)}
		p, e := layer3.Wall(c, s)
		if e != api.OK {
			t.Fatalf("Wall of %v by %v: %d", s, c, e)
		}
		h := heard(p.In-r.Int63n(50), p.In+r.Int63n(50), p.Out-r.Int63n(50), p.Out+r.Int63n(50))
		left, right, e := play.Channels(c, h)
		if e != api.OK || !within(api.Extent{Lo: s.L, Hi: s.L}, left) || !within(api.Extent{Lo: s.R, Hi: s.R}, right) {
			t.Fatalf("Channels of %v by %v: %v, %v, %d do not have %v", h, c, left, right, e, s)
		}
		c.Gain = max(c.Gain, 1000)
		at := api.Point{In: p.In + r.Int63n(3) - 1, Out: p.Out}
		back, found := layer3.Back(c, at)
		left, right, e = play.Channels(c, heard(at.In, at.In, at.Out, at.Out))
		if e != found || left != (api.Extent{Lo: back.L, Hi: back.L}) || right != (api.Extent{Lo: back.R, Hi: back.R}) {
			t.Fatalf("Channels of %v by %v: %v, %v, %d, but Back: %v, %d", at, c, left, right, e, back, found)
		}
	}
}
