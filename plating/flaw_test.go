package plating_test

import (
	"math/rand"
	"slices"
	"testing"

	"deadwax/api"
)

// P7.5, P7.10: the chapter's examples.
func TestFlawsOfExamples(t *testing.T) {
	s := example(t, grow(0))
	if n := do(t, s, flaw(1, 9)); n != 0 {
		t.Errorf("the flaw %d", n)
	}
	for i, a := range []api.PlateAct{grow(1), grow(2), mend(2, 0), grow(2)} {
		if n := do(t, s, a); n != []int{2, 3, 0, 4}[i] {
			t.Errorf("%v: %d", a, n)
		}
	}
	if l := bearers(t, s, 0); !slices.Equal(l, []int{1, 3}) {
		t.Errorf("Bearers: %v", l)
	}
	if l := line(t, s, 4); !slices.Equal(l, []int{0, 1, 2, 4}) {
		t.Errorf("Line: %v", l)
	}
	for plate, want := range [][]int{nil, {0}, nil, {0}, nil} {
		if l := flaws(t, s, plate); !slices.Equal(l, want) {
			t.Errorf("Flaws of %d: %v", plate, l)
		}
	}
	if plate, place, e := s.Origin(0); plate != 1 || place != 9 || e != api.OK {
		t.Errorf("Origin: %d, %d, %d", plate, place, e)
	}
}

// P7.5: plates and flaws that there are not.
func TestNoFlaws(t *testing.T) {
	s := example(t, grow(0), flaw(1, 0), flaw(1, 359), retire(1))
	for _, x := range beyond(0, 1) {
		n := int(x)
		if l, e := s.Flaws(n); len(l) != 0 || e != api.ErrNone {
			t.Errorf("Flaws of %d: %v, %d", n, l, e)
		}
		if plate, place, e := s.Origin(n); plate != 0 || place != 0 || e != api.ErrNone {
			t.Errorf("Origin of %d: %d, %d, %d", n, plate, place, e)
		}
		if l, e := s.Bearers(n); len(l) != 0 || e != api.ErrNone {
			t.Errorf("Bearers of %d: %v, %d", n, l, e)
		}
	}
	for n, want := range []int{0, 359} {
		if plate, place, e := s.Origin(n); plate != 1 || place != want || e != api.OK {
			t.Errorf("Origin of %d: %d, %d, %d", n, plate, place, e)
		}
		if l := bearers(t, s, n); !slices.Equal(l, []int{1}) {
			t.Errorf("Bearers of %d on a plate that was retired: %v", n, l)
		}
	}
}

// P7.5, P7.15: what is mended on a plate, or on a copy, is mended there only.
func TestMendedOnOne(t *testing.T) {
	for mended := 1; mended < 4; mended++ {
		s := example(t, flaw(0, 5), grow(0), flaw(1, 6), grow(1), grow(2))
		c := s.Copy()
		do(t, c, mend(mended, 0))
		for plate := range 4 {
			want := []int{0, 1}[:min(plate, 1)+1]
			if l := flaws(t, s, plate); !slices.Equal(l, want) {
				t.Errorf("Flaws of %d: %v", plate, l)
			}
			if plate == mended {
				want = want[1:]
			}
			if l := flaws(t, c, plate); !slices.Equal(l, want) {
				t.Errorf("Flaws of %d after mending on %d: %v", plate, mended, l)
			}
		}
	}
}

// P7.5, P7.10: the flaws of many plates, some of which were mended.
func TestManyFlaws(t *testing.T) {
	r := rand.New(rand.NewSource(710))
	handed, mended, late := 0, 0, 0
	for range 300 {
		s, w := grown(t, r, 80)
		same(t, s, w)
		for plate := range w.plates {
			var want []int
			for flaw := range w.flaws {
				if slices.Contains(bearers(t, s, flaw), plate) {
					want = append(want, flaw)
				}
			}
			if l := flaws(t, s, plate); !slices.Equal(l, want) {
				t.Fatalf("Flaws of %d after %v: %v, not %v", plate, w.acts, l, want)
			}
		}
		for flaw, f := range w.flaws {
			never := !slices.ContainsFunc(w.acts, func(a api.PlateAct) bool { return a.Kind == api.DoMend && a.Flaw == flaw })
			bear := bearers(t, s, flaw)
			for plate, p := range w.plates {
				l := line(t, s, plate)
				at := slices.Index(l, f.plate)
				down := at >= 0 && (plate == f.plate || w.plates[l[at+1]].grown > f.at)
				bears := slices.Contains(bear, plate)
				if bears && (at < 0 || plate != f.plate && p.grown <= f.at) || bears != down && (never || bears) {
					t.Fatalf("the flaw %d on the plate %d after %v: %v", flaw, plate, w.acts, bears)
				}
				switch {
				case bears && plate != f.plate:
					handed++
				case down && !bears:
					mended++
				case at >= 0 && !down:
					late++
				}
			}
		}
	}
	if handed < 100 || mended < 100 || late < 100 {
		t.Errorf("only %d flaws were handed down, %d mended, %d made late", handed, mended, late)
	}
}
