package play_test

import (
	"math/rand"
	"slices"
	"testing"

	"deadwax/api"
	"deadwax/play"
)

// P6.2: the chapter's examples.
func TestReadExamples(t *testing.T) {
	if got := read(t, example(), points()); !slices.Equal(got, groove(-100, 92, -97, 90, -95, 92)) {
		t.Errorf("Read: %v", got)
	}
	if got := sweep(t, example(), points()); !slices.Equal(got, groove(-100, 92, -98, 90, -95, 92)) {
		t.Errorf("Sweep: %v", got)
	}
	checkMiss(t, "the example", example(), points(), 0, 1)
	checkMiss(t, "the ideal tip", ideal(), points(), -1, -1)
}

// checkMiss holds what Miss returns against samples, below 0 for none.
func checkMiss(t *testing.T, name string, x api.Tip, l []api.Point, at, because int) {
	t.Helper()
	want := api.OK
	if at < 0 {
		at, because, want = 0, 0, api.ErrNone
	}
	if i, u, e := play.Miss(x, l); i != at || u != because || e != want {
		t.Errorf("%s: %d, %d, %d, not %d, %d, %d", name, i, u, e, at, because, want)
	}
}

// P6.2: each edge just read and just missed, on both sides, and the ends of the tip.
func TestMiss(t *testing.T) {
	x := tip(0, 5, 20)
	checkMiss(t, "no points", x, nil, -1, -1)
	checkMiss(t, "one point", x, groove(3, -3), -1, -1)
	checkMiss(t, "just the outer edge before", x, groove(0, 15, 0, 10), -1, -1)
	checkMiss(t, "the outer edge before", x, groove(0, 16, 0, 10), 0, 1)
	checkMiss(t, "just the outer edge after", x, groove(0, 10, 0, 15), -1, -1)
	checkMiss(t, "the outer edge after", x, groove(0, 10, 0, 16), 1, 0)
	checkMiss(t, "just the inner edge before", x, groove(-15, 0, -10, 0), -1, -1)
	checkMiss(t, "the inner edge before", x, groove(-16, 0, -10, 0), 0, 1)
	checkMiss(t, "just the inner edge after", x, groove(-10, 0, -15, 0), -1, -1)
	checkMiss(t, "the inner edge after", x, groove(-10, 0, -16, 0), 1, 0)
	checkMiss(t, "two samples before", x, groove(0, 31, 0, 99, 0, 10), 0, 2)
	checkMiss(t, "just two samples before", x, groove(0, 30, 0, 15, 0, 10), 0, 1)
	checkMiss(t, "two samples after", x, groove(-10, 0, -15, 0, -31, 0), 2, 0)
	checkMiss(t, "three samples away", x, groove(0, 10, 0, 12, 0, 14, 0, 99), 3, 1)
	checkMiss(t, "beyond the tip", x, groove(0, 0, 0, 5, 0, 10, 0, 15, 0, 20, 0, 25), -1, -1)
	checkMiss(t, "the first sample because of which", x, groove(0, 10, 0, 10, 0, 40, 0, 10), 2, 0)
	checkMiss(t, "the first sample that is missed", x, groove(0, 40, 0, 10, 0, 40, 0, 10), 0, 1)
	checkMiss(t, "both edges", x, groove(-20, 0, 0, 0, 0, 20), 0, 1)
	checkMiss(t, "a flat tip", tip(0, 0, 0), groove(-5, 5, -5, 5, -5, 5), -1, -1)
	checkMiss(t, "a flat tip and a bend", tip(0, 0, 0), groove(-5, 5, -5, 5, -5, 4), 0, 2)
	checkMiss(t, "a width below 0", tip(0, 0), groove(5, -5, 5, -5), -1, -1)
}

// P6.2: of grooves of all kinds.
func TestReadByDefinition(t *testing.T) {
	r := rand.New(rand.NewSource(62))
	missed := 0
	for i := range 6000 {
		l, x := someGroove(r, r.Intn(10)), someTip(r, 6)
		if i%5 == 0 {
			l, x = wild(r, r.Intn(8)), wildTip(r, 1+r.Intn(api.MaxReach))
		}
		if i%5 == 1 {
			l = sweep(t, someTip(r, 6), l)
		}
		if got, want := read(t, x, l), wantedRead(x, l); !slices.Equal(got, want) {
			t.Fatalf("Read of %v by %v: %v, not %v", l, x, got, want)
		}
		if got, want := sweep(t, x, l), wantedSweep(x, l); !slices.Equal(got, want) {
			t.Fatalf("Sweep of %v by %v: %v, not %v", l, x, got, want)
		}
		at, because, want := wantedMiss(x, l)
		if i, u, e := play.Miss(x, l); i != at || u != because || e != want {
			t.Fatalf("Miss of %v by %v: %d, %d, %d, not %d, %d, %d", l, x, i, u, e, at, because, want)
		}
		if want == api.OK {
			missed++
		}
	}
	if missed < 2000 || missed > 5000 {
		t.Errorf("%d grooves are missed", missed)
	}
}

// P6.2: long tips on long grooves.
func TestReadOfLongGrooves(t *testing.T) {
	r := rand.New(rand.NewSource(622))
	for _, n := range []int{api.MaxReach - 1, api.MaxReach, api.MaxReach + 1, 2*api.MaxReach - 1, 2 * api.MaxReach, 700} {
		l, x := someGroove(r, n), round(t, 63, 1, false)
		if got := read(t, x, l); !slices.Equal(got, wantedRead(x, l)) {
			t.Errorf("Read of %d points: %v", n, got)
		}
		if got := sweep(t, x, l); !slices.Equal(got, wantedSweep(x, l)) {
			t.Errorf("Sweep of %d points: %v", n, got)
		}
	}
}

// P6.8: what is read lies in what is swept, and that in the groove; less lies in what is narrower, or read by a blunter tip.
func TestInside(t *testing.T) {
	r := rand.New(rand.NewSource(68))
	for range 3000 {
		l, x := someGroove(r, r.Intn(10)), someTip(r, 6)
		got, swept := read(t, x, l), sweep(t, x, l)
		if !inside(got, swept) || !inside(swept, l) {
			t.Fatalf("%v by %v: %v is read, and %v swept", l, x, got, swept)
		}
		inner := narrower(r, l)
		if less := read(t, x, inner); !inside(less, got) {
			t.Fatalf("%v by %v: %v, but in %v %v", inner, x, less, l, got)
		}
		sharp := sharper(r, x)
		if more := read(t, sharp, l); !blunter(x, sharp) || !inside(got, more) {
			t.Fatalf("%v by %v: %v, but by %v %v", l, x, got, sharp, more)
		}
	}
}

// P6.9: what is swept sounds the same, and there is no narrower groove, by a single unit, that does.
func TestSoundsTheSame(t *testing.T) {
	r := rand.New(rand.NewSource(69))
	for range 3000 {
		l, x := someGroove(r, r.Intn(8)), someTip(r, 6)
		got, swept := read(t, x, l), sweep(t, x, l)
		if again := read(t, x, swept); !slices.Equal(again, got) {
			t.Fatalf("%v by %v: %v is read, but of what is swept %v", l, x, got, again)
		}
		for i := range swept {
			for _, p := range []api.Point{{In: 1}, {Out: -1}} {
				less := slices.Clone(swept)
				less[i].In += p.In
				less[i].Out += p.Out
				if slices.Equal(read(t, x, less), got) {
					t.Fatalf("%v by %v: %v sounds the same as what is swept, %v", l, x, less, swept)
				}
			}
		}
		other := narrower(r, l)
		if slices.Equal(read(t, x, other), got) && !inside(swept, other) {
			t.Fatalf("%v by %v: %v sounds the same, but does not contain %v", l, x, other, swept)
		}
	}
}

// P6.10: what is read exactly is what is read and swept, and by each sharper tip; what is missed is not read.
func TestExact(t *testing.T) {
	r := rand.New(rand.NewSource(610))
	exactly := 0
	for i := range 5000 {
		l, x := someGroove(r, r.Intn(10)), someTip(r, 6)
		if i%2 == 0 {
			l = sweep(t, someTip(r, 6), l)
		}
		if !exact(t, ideal(), l) {
			t.Fatalf("the ideal tip misses %v", l)
		}
		got := read(t, x, l)
		if !exact(t, x, l) {
			if at, _, _ := play.Miss(x, l); got[at] == l[at] {
				t.Fatalf("%v by %v: %d is missed, but read", l, x, at)
			}
			continue
		}
		exactly++
		sharp := sharper(r, x)
		if !slices.Equal(got, l) || !slices.Equal(sweep(t, x, l), l) || !exact(t, sharp, l) {
			t.Fatalf("%v is read exactly by %v, but not by the sharper %v, or not read or swept", l, x, sharp)
		}
	}
	if exactly < 1000 || exactly > 4000 {
		t.Errorf("%d grooves are read exactly", exactly)
	}
}
