package listen_test

import (
	"math"
	"math/rand"
	"slices"
	"testing"

	"deadwax/api"
	"deadwax/listen"
	"deadwax/plating"
)

// P9.5: the chapter's examples.
func TestHasExamples(t *testing.T) {
	for _, x := range []struct {
		c    api.Cause
		want []int64
	}{
		{api.Cause{Plate: 0, From: 1}, []int64{10, 11, 12, 13, 14, 15}},
		{api.Cause{Plate: 1, From: 2}, []int64{10, 11, 12, 13, 14, 15}},
		{api.Cause{Plate: 1, From: 4}, []int64{12, 15}},
		{api.Cause{Plate: 2, From: 3}, []int64{10, 11, 13, 14}},
		{api.Cause{Plate: 2, From: 6}, []int64{13, 14}},
		{api.Cause{Plate: 3, From: 10}, []int64{10, 11}},
		{api.Cause{Plate: 3, From: 11}, []int64{11}},
		{api.Cause{Plate: 5, From: 12}, []int64{12, 15}},
		{api.Cause{Plate: -1, From: 10}, []int64{10}},
		{api.Cause{Plate: -1, From: 15}, []int64{15}},
	} {
		if has := example().has(t, x.c); !slices.Equal(has, x.want) {
			t.Errorf("Has of %v: %v, not %v", x.c, has, x.want)
		}
	}
}

// P9.5: on the side 1 there are other stampers.
func TestHasOnTheOtherSide(t *testing.T) {
	l := example()
	l.side = 1
	for _, x := range []struct {
		c    api.Cause
		want []int64
	}{
		{api.Cause{Plate: 1, From: 4}, []int64{10, 12, 14}},
		{api.Cause{Plate: 2, From: 3}, []int64{11, 13, 15}},
		{api.Cause{Plate: 2, From: 6}, []int64{11, 13, 15}},
		{api.Cause{Plate: 5, From: 12}, []int64{12, 14}},
		{api.Cause{Plate: 6, From: 15}, []int64{15}},
		{api.Cause{Plate: -1, From: 12}, []int64{12}},
	} {
		if has := l.has(t, x.c); !slices.Equal(has, x.want) {
			t.Errorf("Has of %v: %v, not %v", x.c, has, x.want)
		}
	}
	if has, e := listen.Has(l.p, l.d, 1, api.Cause{Plate: 3, From: 10}); len(has) != 0 || e != api.ErrArg {
		t.Errorf("Has of a stamper of the side 0: %v, %d", has, e)
	}
}

// P9.5: of a plate on which a stamper was grown that pressed nothing, no disc has a defect.
func TestHasNothing(t *testing.T) {
	l := lot{append(plates(), api.Plate{Kind: 3, Parent: 4}, api.Plate{Parent: -1}, api.Plate{Kind: 1, Parent: 8}), discs(), 0}
	for _, c := range []api.Cause{{Plate: 4, From: 7}, {Plate: 8, From: 9}} {
		if has := l.has(t, c); len(has) != 0 {
			t.Errorf("Has of %v: %v", c, has)
		}
	}
	if has := (lot{plates(), nil, 1}).has(t, api.Cause{Plate: 0, From: 1}); len(has) != 0 {
		t.Errorf("Has without discs: %v", has)
	}
}

// P9.5
func TestNoCauses(t *testing.T) {
	l := example()
	for _, plate := range append(beyond(-1, 6), -2, 7) {
		for _, from := range []int64{0, 1, 2, 10, 12, -1} {
			if has, e := listen.Has(l.p, l.d, 0, api.Cause{Plate: plate, From: from}); len(has) != 0 || e != api.ErrArg {
				t.Errorf("Has of the plate %d from %d: %v, %d", plate, from, has, e)
			}
		}
	}
	for plate := -1; plate < 7; plate++ {
		for _, from := range []int64{-1, 0, 7, 9, 16, 1<<32 + 1, 1<<32 + 2, 1<<32 + 10, math.MinInt64, math.MaxInt64} {
			if has, e := listen.Has(l.p, l.d, 0, api.Cause{Plate: plate, From: from}); len(has) != 0 || e != api.ErrArg {
				t.Errorf("Has of the plate %d from %d: %v, %d", plate, from, has, e)
			}
		}
	}
}

// P9.5: all that can be a cause of many lots, and is one or not.
func TestHas(t *testing.T) {
	r := rand.New(rand.NewSource(95))
	causes, others := 0, 0
	for range 150 {
		l := someLot(r, 20, 15)
		for plate := -2; plate <= len(l.p); plate++ {
			for _, from := range append(l.numbers(), -1, int64(len(l.p))) {
				c := api.Cause{Plate: plate, From: from}
				want, is := l.wantedHas(c)
				e := api.ErrArg
				if is {
					causes++
					e = api.OK
				} else {
					others++
				}
				if has, got := listen.Has(l.p, l.d, l.side, c); got != e || !slices.Equal(has, want) {
					t.Fatalf("Has of %v for %v: %v, %d, not %v, %d", c, l, has, got, want, e)
				}
			}
		}
	}
	if causes < 2000 || others < 10000 {
		t.Errorf("%d causes, and %d that are none", causes, others)
	}
}

// P9.12: a disc that has a cause has its plate in its line, those with a later From are had by fewer discs, and the first one by all that have any.
func TestDescent(t *testing.T) {
	r := rand.New(rand.NewSource(912))
	for range 300 {
		l := someLot(r, 30, 25)
		before := api.Cause{Plate: -2}
		var first, last []int64
		for _, c := range l.causes(t) {
			has := l.has(t, c)
			for i, d := range l.d {
				if c.Plate >= 0 && slices.Contains(has, d.Serial) && !slices.Contains(l.line(l.stamper(l.d[i])), c.Plate) {
					t.Fatalf("the disc %d of %v has %v", d.Serial, l, c)
				}
			}
			if c.Plate != before.Plate {
				first, last = has, has
			}
			if c.Plate >= 0 && (!within(has, last) || !within(has, first)) {
				t.Fatalf("%v has %v for %v, but those before %v, and the first one %v", c, has, l, last, first)
			}
			before, last = c, has
		}
	}
}

func within(some, list []int64) bool {
	return !slices.ContainsFunc(some, func(x int64) bool { return !slices.Contains(list, x) })
}

// grow grows some plates on any ones that have room.
func grow(r *rand.Rand, shop *plating.Shop, times int) {
	for range times {
		shop.Do(api.PlateAct{Kind: api.DoGrow, Plate: r.Intn(len(shop.Plates()))})
	}
}

// flawed returns the plates of a shop, one disc of each stamper, and the plates that bear a flaw of one of them; from is the number of the next plate at the time of the flaw. It reports whether the plate was not retired.
func flawed(r *rand.Rand, t *testing.T) (l lot, bearers []int, plate int, from int64, made bool) {
	t.Helper()
	recipe := api.Recipe{Thick: [4]int64{0, 9, 9, 9}, Mothers: 3, Stampers: 3}
	shop, _, e := plating.Replay(recipe, []api.PlateAct{{Kind: api.DoLacquer, Area: 1}, {Kind: api.DoBath, Yield: 1}})
	if e != api.OK {
		t.Fatalf("Replay: %d", e)
	}
	grow(r, shop, 15)
	from = int64(len(shop.Plates()))
	plate = r.Intn(int(from))
	if _, e := shop.Do(api.PlateAct{Kind: api.DoFlaw, Plate: plate}); e != api.OK {
		return lot{}, nil, 0, 0, false
	}
	grow(r, shop, 60)
	bearers, _ = shop.Bearers(0)
	l.p = shop.Plates()
	for i, p := range l.p {
		if p.Kind == api.PlateStamper {
			l.d = append(l.d, api.Disc{Serial: int64(i), A: int64(i + 1), B: int64(i + 1)})
		}
	}
	return l, bearers, plate, from, true
}

// Plates are those of layer 7: the stampers that bear a flaw there are those whose discs have the cause here that begins with the plate that was grown on the flawed one next.
func TestPlatesOfShops(t *testing.T) {
	r := rand.New(rand.NewSource(97))
	handedDown := 0
	for range 300 {
		l, bearers, plate, from, made := flawed(r, t)
		if !made || l.p[plate].Kind == api.PlateStamper {
			continue
		}
		causes := l.causes(t)
		next := slices.IndexFunc(causes, func(c api.Cause) bool { return c.Plate == plate && c.From >= from })
		if next < 0 {
			continue // nothing was grown on the plate after the flaw was made
		}
		for _, d := range l.d {
			has := slices.Contains(l.has(t, causes[next]), d.Serial)
			if has != slices.Contains(bearers, int(d.Serial)) {
				t.Fatalf("the disc %d of %v has %v: %v, but %v bear the flaw", d.Serial, l.p, causes[next], has, bearers)
			}
			if has {
				handedDown++
			}
		}
	}
	if handedDown < 100 {
		t.Errorf("only %d discs had flaws", handedDown)
	}
}
