package play_test

import (
	"math/rand"
	"slices"
	"testing"

	"deadwax/api"
	"deadwax/play"
)

// P6.4: the chapter's example, and where the next sample begins.
func TestWow(t *testing.T) {
	for _, c := range []struct {
		off, r, per, want int64
		e                 api.Errno
	}{
		{160, 1130000, 1000, 1, api.OK},
		{0, 1, 1, 0, api.OK},
		{0, api.MaxRadius, api.MaxPer, 0, api.OK},
		{1, api.MaxRadius, 1, 1, api.OK},
		{710, 113, 1, 1, api.OK},
		{711, 113, 1, 2, api.OK},
		{709, 113, 1, 1, api.OK},
		{377, 1, 1, 61, api.OK}, // 377 times 113 is 60 times 710, and 1
		{710 * 256, 113, 1, 256, api.OK},
		{710*256 + 1, 113, 1, 0, api.ErrLimit},
		{710, 113, 256, 256, api.OK},
		{710, 113, 257, 0, api.ErrLimit},
		{710, 112, 256, 0, api.ErrLimit},
		{api.MaxEdge, 1, api.MaxPer, 0, api.ErrLimit},
		{api.MaxEdge, api.MaxRadius, 1, 1, api.OK},
		{api.MaxEdge, api.MaxRadius, 1608, 256, api.OK},
		{api.MaxEdge, api.MaxRadius, 1609, 0, api.ErrLimit},
		{api.MaxEdge, api.MaxRadius, api.MaxPer, 0, api.ErrLimit},
		{102943, api.MaxRadius, api.MaxPer, 256, api.OK},
		{102944, api.MaxRadius, api.MaxPer, 0, api.ErrLimit},
		{api.MaxEdge, 0, api.MaxPer, 0, api.ErrZero},
		{0, 0, 1, 0, api.ErrZero},
	} {
		if w, e := play.Wow(c.off, c.r, c.per); w != c.want || e != c.e {
			t.Errorf("Wow of %d at %d with %d: %d, %d, not %d, %d", c.off, c.r, c.per, w, e, c.want, c.e)
		}
	}
}

// P6.4: the wow is the least whole number that is not less than the true one.
func TestWowByDefinition(t *testing.T) {
	r := rand.New(rand.NewSource(64))
	some := 0
	for range 20000 {
		off, radius, per := upTo(r, 0, api.MaxEdge), upTo(r, 1, api.MaxRadius), upTo(r, 1, api.MaxPer)
		if r.Intn(2) == 0 {
			off /= per
		}
		w, e := play.Wow(off, radius, per)
		up, down := off*113*per, 710*radius
		if e == api.ErrLimit && w == 0 && up > api.MaxWow*down {
			continue
		}
		some++
		if e != api.OK || w > api.MaxWow || w*down < up || w > 0 && (w-1)*down >= up || w < 0 {
			t.Fatalf("Wow of %d at %d with %d: %d, %d", off, radius, per, w, e)
		}
	}
	if some < 5000 {
		t.Errorf("only %d discs can be heard", some)
	}
}

// P6.4: the errors come in their order.
func TestErrorsOfWow(t *testing.T) {
	check := func(off, r, per int64) {
		t.Helper()
		if w, e := play.Wow(off, r, per); w != 0 || e != api.ErrRange {
			t.Errorf("Wow of %d at %d with %d: %d, %d", off, r, per, w, e)
		}
	}
	for _, off := range beyond(0, api.MaxEdge) {
		check(off, 1, 1)
		check(off, 0, 1)
	}
	for _, r := range beyond(0, api.MaxRadius) {
		check(0, r, 1)
	}
	for _, per := range beyond(1, api.MaxPer) {
		check(0, 1, per)
		check(0, 0, per)
		check(api.MaxEdge, 1, per)
	}
}

func heard(inLow, inHigh, outLow, outHigh int64) api.Heard {
	return api.Heard{In: api.Extent{Lo: inLow, Hi: inHigh}, Out: api.Extent{Lo: outLow, Hi: outHigh}}
}

// P6.5: the chapter's example, and a blunt tip with a sharp one.
func TestHearExamples(t *testing.T) {
	for _, c := range []struct {
		blunt, sharp api.Tip
		wow          int64
		want         []api.Heard
	}{
		{example(), example(), 0, []api.Heard{heard(-100, -100, 92, 92), heard(-97, -97, 90, 90), heard(-95, -95, 92, 92)}},
		{example(), example(), 1, []api.Heard{heard(-100, -97, 90, 92), heard(-100, -95, 90, 92), heard(-97, -95, 90, 92)}},
		{example(), example(), 2, []api.Heard{heard(-100, -95, 90, 92), heard(-100, -95, 90, 92), heard(-100, -95, 90, 92)}},
		{example(), ideal(), 0, []api.Heard{heard(-100, -100, 92, 100), heard(-100, -97, 90, 90), heard(-95, -95, 92, 100)}},
		{example(), ideal(), 1, []api.Heard{heard(-100, -97, 90, 100), heard(-100, -95, 90, 100), heard(-100, -95, 90, 100)}},
		{example(), ideal(), api.MaxWow, []api.Heard{heard(-100, -95, 90, 100), heard(-100, -95, 90, 100), heard(-100, -95, 90, 100)}},
	} {
		if h := hear(t, c.blunt, c.sharp, points(), c.wow); !slices.Equal(h, c.want) {
			t.Errorf("%v, %v, %d: %v, not %v", c.blunt, c.sharp, c.wow, h, c.want)
		}
	}
	hear(t, example(), ideal(), nil, 5)
}

// P6.5: which tips are blunter, and the errors in their order.
func TestErrorsOfHear(t *testing.T) {
	check := func(name string, blunt, sharp api.Tip, wow int64, want api.Errno) {
		t.Helper()
		for _, l := range [][]api.Point{nil, points()} {
			if h, e := play.Hear(blunt, sharp, l, wow); e != want || len(h) != 0 && e != api.OK {
				t.Errorf("%s: %v, %d, not %d", name, h, e, want)
			}
		}
	}
	check("itself", example(), example(), 0, api.OK)
	check("an element more", example(), tip(0, 2), 0, api.OK)
	check("an element less", tip(0, 2), example(), 0, api.ErrRule)
	check("an element less, all of them 0", tip(0, 0), example(), 0, api.ErrRule)
	check("a lesser last element", tip(0, 2, 9), example(), 0, api.OK)
	check("a greater last element", tip(0, 2, 11), example(), 0, api.ErrRule)
	check("a lesser element between", tip(0, 1, 10), example(), 0, api.OK)
	check("a greater element between", tip(0, 3, 10), example(), 0, api.ErrRule)
	check("a greater one and more", tip(0, 3, 10, 10), example(), 0, api.ErrRule)
	check("more beyond", tip(0, 2, 10, api.MaxEdge), example(), 0, api.OK)
	check("the greatest wow", example(), example(), api.MaxWow, api.OK)
	for _, wow := range beyond(0, api.MaxWow) {
		check("the wow", example(), ideal(), wow, api.ErrRange)
		check("both", ideal(), example(), wow, api.ErrRule)
	}
}

// P6.5: of grooves of all kinds.
func TestHearByDefinition(t *testing.T) {
	r := rand.New(rand.NewSource(65))
	for i := range 3000 {
		l, blunt := someGroove(r, r.Intn(12)), someTip(r, 6)
		sharp := sharper(r, blunt)
		if i%5 == 0 {
			l, blunt, sharp = wild(r, r.Intn(8)), wildTip(r, 1+r.Intn(9)), ideal()
		}
		wow := r.Int63n(5)
		if got, want := hear(t, blunt, sharp, l, wow), wantedHear(blunt, sharp, l, wow); !slices.Equal(got, want) {
			t.Fatalf("Hear of %v by %v and %v with %d: %v, not %v", l, blunt, sharp, wow, got, want)
		}
	}
	l := someGroove(r, 600)
	for _, wow := range []int64{api.MaxWow - 1, api.MaxWow} {
		if got := hear(t, example(), ideal(), l, wow); !slices.Equal(got, wantedHear(example(), ideal(), l, wow)) {
			t.Errorf("Hear of a long groove with %d: %v", wow, got)
		}
	}
}

// P6.12: what a tip between both reads, however early or late, lies in the extents; these grow with the wow.
func TestHeard(t *testing.T) {
	r := rand.New(rand.NewSource(612))
	for range 3000 {
		l, blunt, wow := someGroove(r, 1+r.Intn(10)), someTip(r, 6), r.Intn(5)
		between := sharper(r, blunt)
		sharp := sharper(r, between)
		h := hear(t, blunt, sharp, l, int64(wow))
		more := hear(t, blunt, sharp, l, int64(wow)+1)
		got := read(t, between, l)
		for i := range l {
			u := min(len(l)-1, max(0, i+r.Intn(2*wow+1)-wow))
			if p := got[u]; !within(api.Extent{Lo: p.In, Hi: p.In}, h[i].In) || !within(api.Extent{Lo: p.Out, Hi: p.Out}, h[i].Out) {
				t.Fatalf("%v with %d: %v of %d is heard at %d, not in %v", l, wow, p, u, i, h[i])
			}
			if !within(h[i].In, more[i].In) || !within(h[i].Out, more[i].Out) {
				t.Fatalf("%v with %d: %v at %d, and with 1 more %v", l, wow, h[i], i, more[i])
			}
		}
		for i, x := range hear(t, between, between, l, 0) {
			if p := got[i]; x != heard(p.In, p.In, p.Out, p.Out) {
				t.Fatalf("%v by %v: %v is heard at %d, but %v read", l, between, x, i, p)
			}
		}
	}
}
