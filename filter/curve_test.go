package filter_test

import (
	"math"
	"math/rand"
	"slices"
	"testing"

	"deadwax/api"
	"deadwax/filter"
)

// P2.1
func TestCheckCurve(t *testing.T) {
	full := slices.Repeat([]int64{api.MaxWeight, -api.MaxWeight}, api.MaxTaps/2)
	nine := make([]int64, api.MaxTaps+1)
	bad := []int64{api.MaxWeight + 1}
	for _, c := range []struct {
		name string
		c    api.Curve
		want api.Errno
	}{
		{"no coefficients", api.Curve{Share: 1}, api.OK},
		{"empty lists", api.Curve{Feed: []int64{}, Back: []int64{}, Share: 1}, api.OK},
		{"all at their limits", api.Curve{Feed: full, Back: full, Share: api.MaxShare}, api.OK},
		{"nine of Feed", api.Curve{Feed: nine, Share: 1}, api.ErrMany},
		{"nine of Back", api.Curve{Back: nine, Share: 1}, api.ErrMany},
		{"nine of Back, and Feed is not valid", api.Curve{Feed: bad, Back: nine, Share: 1}, api.ErrMany},
		{"nine of Feed, and Back is not valid", api.Curve{Feed: nine, Back: bad, Share: 1}, api.ErrMany},
		{"nine of Feed, and no share", api.Curve{Feed: nine}, api.ErrMany},
		{"nine of Back that are not valid", api.Curve{Back: slices.Repeat(bad, 9), Share: 1}, api.ErrMany},
		{"no curve", api.Curve{}, api.ErrArg},
	} {
		if e := filter.CheckCurve(c.c); e != c.want {
			t.Errorf("%s: %d, not %d", c.name, e, c.want)
		}
	}
	for _, share := range []int64{0, -1, -256, api.MaxShare + 1, math.MaxInt64, math.MinInt64} {
		if e := filter.CheckCurve(api.Curve{Share: share}); e != api.ErrArg {
			t.Errorf("share %d: %d", share, e)
		}
	}
	for share := int64(1); share <= api.MaxShare; share++ {
		if e := filter.CheckCurve(api.Curve{Share: share}); e != api.OK {
			t.Errorf("share %d: %d", share, e)
		}
	}
}

// P2.1
func TestCheckCurveCoefficients(t *testing.T) {
	for _, x := range beyond(api.MaxWeight) {
		for at := range api.MaxTaps {
			l := make([]int64, api.MaxTaps)
			l[at] = x
			if e := filter.CheckCurve(api.Curve{Feed: l, Share: 1}); e != api.ErrArg {
				t.Errorf("%d in Feed at %d: %d", x, at, e)
			}
			if e := filter.CheckCurve(api.Curve{Back: l, Share: 1}); e != api.ErrArg {
				t.Errorf("%d in Back at %d: %d", x, at, e)
			}
		}
	}
}

// P2.1
func TestNamed(t *testing.T) {
	want := map[string]api.Curve{
		"flat":    {Share: 1},
		"warm":    {Feed: []int64{64}, Back: []int64{128}, Share: 256},
		"bright":  {Feed: []int64{-192}, Share: 256},
		"shellac": {Feed: []int64{32, 16}, Back: []int64{96, 32}, Share: 256},
	}
	for name, c := range want {
		got, e := filter.Named(name)
		if e != api.OK || !sameCurve(got, c) {
			t.Errorf("%s: %v, %d", name, got, e)
		}
		if e := filter.CheckCurve(got); e != api.OK {
			t.Errorf("%s is not valid: %d", name, e)
		}
	}
	for _, name := range []string{"", "Flat", "flat ", " flat", "fla", "flatt", "WARM", "warm\x00", "bright\n", "cold", "shellac2", "\xff"} {
		got, e := filter.Named(name)
		if e != api.ErrNone || !sameCurve(got, api.Curve{}) {
			t.Errorf("%q: %v, %d", name, got, e)
		}
	}
}

// P2.1, R5
func TestNamedIsNew(t *testing.T) {
	for _, name := range named {
		c, want := curve(t, name), copyCurve(curve(t, name))
		for _, l := range [][]int64{c.Feed, c.Back} {
			for i := range l {
				l[i]++
			}
			_ = append(l, 1)
		}
		if got := curve(t, name); !sameCurve(got, want) {
			t.Errorf("%s has become %v", name, got)
		}
	}
}

// P2.3
func TestBoundExamples(t *testing.T) {
	for _, c := range []struct {
		name       string
		most, want int64
	}{{"warm", 100, 251}, {"bright", 100, 175}, {"warm", 0, 1}, {"flat", 0, 0}, {"flat", api.MaxSample, api.MaxSample}, {"bright", 0, 0}} {
		if n, e := filter.Bound(curve(t, c.name), c.most); n != c.want || e != api.OK {
			t.Errorf("Bound of %s for %d: %d, %d", c.name, c.most, n, e)
		}
	}
	for _, c := range []struct {
		name string
		want int64
	}{{"warm", 13106}, {"flat", api.MaxSample}, {"bright", 18724}} {
		if n, e := filter.Headroom(curve(t, c.name)); n != c.want || e != api.OK {
			t.Errorf("Headroom of %s: %d, %d", c.name, n, e)
		}
	}
}

// P2.3
func TestBoundErrors(t *testing.T) {
	wild := api.Curve{Back: []int64{3, -4}, Share: 7}
	for _, c := range []api.Curve{
		wild,
		{Back: []int64{-8}, Share: 7},
		{Back: []int64{1}, Share: 1},
		{Back: slices.Repeat([]int64{-api.MaxWeight}, api.MaxTaps), Share: api.MaxShare},
	} {
		for _, most := range []int64{0, 1, api.MaxSample} {
			if n, e := filter.Bound(c, most); n != 0 || e != api.ErrNone {
				t.Errorf("%v is not tame: %d, %d", c, n, e)
			}
		}
		if n, e := filter.Headroom(c); n != 0 || e != api.ErrNone {
			t.Errorf("headroom of %v: %d, %d", c, n, e)
		}
	}
	for _, most := range append(beyond(api.MaxSample), -1, -api.MaxSample) {
		for _, c := range []api.Curve{wild, curve(t, "warm")} {
			if n, e := filter.Bound(c, most); n != 0 || e != api.ErrRange {
				t.Errorf("Bound of %v for %d: %d, %d", c, most, n, e)
			}
		}
	}
	for name, c := range invalidCurves() {
		for _, most := range []int64{5, -1} {
			if n, e := filter.Bound(c.c, most); n != 0 || e != c.want {
				t.Errorf("Bound, %s: %d, %d", name, n, e)
			}
		}
		if n, e := filter.Headroom(c.c); n != 0 || e != c.want {
			t.Errorf("Headroom, %s: %d, %d", name, n, e)
		}
	}
}

// P2.3
func TestBoundByDefinition(t *testing.T) {
	r := rand.New(rand.NewSource(23))
	greatest := api.Curve{Feed: slices.Repeat([]int64{-api.MaxWeight}, api.MaxTaps), Back: []int64{api.MaxShare - 1}, Share: api.MaxShare}
	curves := append(chain(r, 500, anyCurve), greatest, api.Curve{Back: []int64{api.MaxShare - 1}, Share: api.MaxShare})
	for _, c := range append(curves, chain(r, 500, tameCurve)...) {
		for _, most := range []int64{0, 1, r.Int63n(api.MaxSample), api.MaxSample} {
			n, e := filter.Bound(c, most)
			want, tame := wantedBound(c, most)
			if !tame && (n != 0 || e != api.ErrNone) || tame && (n != want.Int64() || e != api.OK) {
				t.Errorf("Bound of %v for %d: %d, %d, not %v", c, most, n, e, want)
			}
		}
		checkHeadroom(t, c)
	}
}

// checkHeadroom checks that the bound for the headroom is a sample, and that for one more it is none.
func checkHeadroom(t *testing.T, c api.Curve) {
	t.Helper()
	n, e := filter.Headroom(c)
	at, tame := wantedBound(c, n)
	if !tame {
		if n != 0 || e != api.ErrNone {
			t.Errorf("Headroom of %v: %d, %d", c, n, e)
		}
		return
	}
	above, _ := wantedBound(c, n+1)
	if e != api.OK || n < 0 || n > api.MaxSample || at.Int64() > api.MaxSample || n < api.MaxSample && above.Int64() <= api.MaxSample {
		t.Errorf("Headroom of %v: %d, %d; the bounds for it and one more are %d and %d", c, n, e, at, above)
	}
}
