package plating_test

import (
	"math/rand"
	"slices"
	"testing"

	"deadwax/api"
	"deadwax/plating"
)

// The first four rows of the chapter's examples.
func TestExamples(t *testing.T) {
	s, e := plating.New(recipe())
	if e != api.OK {
		t.Fatalf("New: %d", e)
	}
	for i, a := range []api.PlateAct{lacquer(1000), bath(2000, 500), grow(0)} {
		if n, e := s.Do(a); n != i/2 || e != api.OK {
			t.Errorf("%v: %d, %d", a, n, e)
		}
	}
	if l := s.Tanks(); !slices.Equal(l, []api.Tank{{Stock: 1725, Yield: 500, Charge: 550, Laid: 275}}) {
		t.Errorf("Tanks: %v", l)
	}
	want := []api.Plate{{Parent: -1, Cut: 7, Area: 1000, Grown: 1, Retired: true}, {Kind: api.PlateFather, Cut: 7, Area: 1000, Thick: 275}}
	if l := s.Plates(); !slices.Equal(l, want) {
		t.Errorf("Plates: %v", l)
	}
	if n, e := s.Do(grow(0)); n != 0 || e != api.ErrState {
		t.Errorf("a second father: %d, %d", n, e)
	}
}

// P7.2, P7.3, P7.15: what many acts return and do, and that those with an error change nothing.
func TestManyActs(t *testing.T) {
	r := rand.New(rand.NewSource(72))
	type kind struct {
		kind int
		e    api.Errno
	}
	seen := map[kind]int{}
	for range 400 {
		w := &wanted{r: someRecipe(r)}
		s, e := plating.New(w.r)
		if e != api.OK {
			t.Fatalf("New of %v: %d", w.r, e)
		}
		for range 80 {
			a := someAct(r, w)
			wantedNumber, wantedError := w.do(a)
			n, e := s.Do(a)
			if n != wantedNumber || e != wantedError {
				t.Fatalf("%v after %v with %v: %d, %d, not %d, %d", a, w.acts, w.r, n, e, wantedNumber, wantedError)
			}
			seen[kind{a.Kind, e}]++
			same(t, s, w)
		}
	}
	for _, k := range []kind{
		{api.DoLacquer, api.OK}, {api.DoBath, api.OK}, {api.DoBath, api.ErrFull}, {api.DoFlaw, api.OK}, {api.DoFlaw, api.ErrNone}, {api.DoFlaw, api.ErrState},
		{api.DoGrow, api.OK}, {api.DoGrow, api.ErrNone}, {api.DoGrow, api.ErrState}, {api.DoGrow, api.ErrFull}, {api.DoGrow, api.ErrLimit}, {api.DoGrow, api.ErrRule}, {api.DoGrow, api.ErrOld},
		{api.DoMend, api.OK}, {api.DoMend, api.ErrNone}, {api.DoMend, api.ErrState}, {api.DoMend, api.ErrLost}, {api.DoRetire, api.OK}, {api.DoRetire, api.ErrNone}, {api.DoRetire, api.ErrState},
	} {
		if seen[k] < 5 {
			t.Errorf("the kind %d had the error %d only %d times", k.kind, k.e, seen[k])
		}
	}
}

// same compares all that a shop tells with what is wanted.
func same(t *testing.T, s *plating.Shop, w *wanted) {
	t.Helper()
	if !slices.Equal(s.Plates(), w.told()) || !slices.Equal(s.Tanks(), w.tanks) || !slices.Equal(s.Acts(), w.acts) {
		t.Fatalf("after %v: %v, %v, %v", w.acts, s.Plates(), s.Tanks(), s.Acts())
	}
	for flaw, f := range w.flaws {
		if plate, place, e := s.Origin(flaw); plate != f.plate || place != f.place || e != api.OK {
			t.Fatalf("Origin of %d after %v: %d, %d, %d", flaw, w.acts, plate, place, e)
		}
		var want []int
		for plate := range w.plates {
			if w.bears(plate, flaw, len(w.acts)) {
				want = append(want, plate)
			}
		}
		if !slices.Equal(bearers(t, s, flaw), want) {
			t.Fatalf("Bearers of %d after %v: %v, not %v", flaw, w.acts, bearers(t, s, flaw), want)
		}
	}
	if _, _, e := s.Origin(len(w.flaws)); e != api.ErrNone {
		t.Fatalf("one more flaw after %v: %d", w.acts, e)
	}
}

// step is an act, and what it returns.
type step struct {
	name string
	a    api.PlateAct
	n    int
	e    api.Errno
}

func steps(t *testing.T, s *plating.Shop, l []step) {
	t.Helper()
	for _, x := range l {
		before := s.Copy()
		n, e := s.Do(x.a)
		if n != x.n || e != x.e {
			t.Errorf("%s: %d, %d, not %d, %d", x.name, n, e, x.n, x.e)
		}
		if e != api.OK && (!slices.Equal(s.Plates(), before.Plates()) || !slices.Equal(s.Tanks(), before.Tanks()) || !slices.Equal(s.Acts(), before.Acts())) {
			t.Errorf("%s changes the shop", x.name)
		}
	}
}

// P7.2: the errors of a growth come in their order: each act has all errors that come later, as far as this is possible.
func TestErrorsOfGrowths(t *testing.T) {
	wrong := func(plate, bath int) api.PlateAct {
		return api.PlateAct{Kind: api.DoGrow, Plate: plate, Bath: bath, Strike: [2]int64{51, 0}, Current: 501}
	}
	cool := wrong(1, 0)
	cool.Strike[0], cool.Current = 50, 500
	poor := grow(1)
	poor.Bath = 1
	thin := poor
	thin.Seconds = 0
	thick := poor
	thick.Strike[1] = 100
	s := example(t, grow(0), grow(1), grow(2), bath(136, 250), lacquer(1000), retire(4), flaw(3, 5))
	steps(t, s, []step{
		{"on no plate, in no bath", wrong(-1, -1), 0, api.ErrNone},
		{"on no plate", wrong(5, 0), 0, api.ErrNone},
		{"in no bath, on a retired plate", wrong(0, 2), 0, api.ErrNone},
		{"in no bath, on a stamper", wrong(3, -1), 0, api.ErrNone},
		{"in no bath", wrong(1, 2), 0, api.ErrNone},
		{"on a lacquer with a father", wrong(0, 0), 0, api.ErrState},
		{"on a retired lacquer", wrong(4, 0), 0, api.ErrState},
		{"on a stamper", wrong(3, 0), 0, api.ErrFull},
		{"both too hot", wrong(1, 0), 0, api.ErrLimit},
		{"both just not too hot", cool, 0, api.ErrRule},
		{"too thin, with too little stock", thin, 0, api.ErrRule},
		{"too thick, with too little stock", thick, 0, api.ErrRule},
		{"with too little stock", poor, 0, api.ErrOld}, // 12 and 125, and 1 unit of it is lacking
		{"in the other bath", grow(1), 5, api.OK},
		{"on a father without room", wrong(1, 0), 0, api.ErrFull},
		{"a retired father", retire(1), 0, api.OK},
		{"on a retired father without room", wrong(1, 0), 0, api.ErrState},
	})
	poor.Plate = 5
	poor.Strike[1] = 0
	if n, e := s.Do(poor); n != 0 || e != api.ErrRule {
		t.Errorf("without a strike: %d, %d", n, e)
	}
}

// P7.2: the errors of flaws, of mending and of retiring come in their order.
func TestErrorsOfOtherActs(t *testing.T) {
	s := example(t, grow(0), flaw(1, 9), grow(1))
	steps(t, s, []step{
		{"a flaw on no plate", flaw(3, 9), 0, api.ErrNone},
		{"a flaw on a plate below 0", flaw(-1, 9), 0, api.ErrNone},
		{"a flaw on a retired plate", flaw(0, 9), 0, api.ErrState},
		{"a flaw at 0", flaw(1, 0), 1, api.OK},
		{"a flaw at 359", flaw(1, 359), 2, api.OK},
		{"mending on no plate", mend(3, 0), 0, api.ErrNone},
		{"mending of no flaw", mend(2, 3), 0, api.ErrNone},
		{"mending of no flaw, below 0", mend(2, -1), 0, api.ErrNone},
		{"mending of no flaw on a retired plate", mend(0, 3), 0, api.ErrNone},
		{"mending on a retired plate", mend(0, 0), 0, api.ErrState},
		{"mending of a flaw that is not borne", mend(2, 1), 0, api.ErrLost},
		{"mending", mend(2, 0), 0, api.OK},
		{"mending again", mend(2, 0), 0, api.ErrLost},
		{"retiring of no plate", retire(3), 0, api.ErrNone},
		{"retiring of no plate, below 0", retire(-1), 0, api.ErrNone},
		{"retiring of a retired plate", retire(0), 0, api.ErrState},
		{"retiring", retire(1), 0, api.OK},
		{"retiring again", retire(1), 0, api.ErrState},
		{"a flaw on a plate that was retired", flaw(1, 5), 0, api.ErrState},
		{"mending on a plate that was retired", mend(1, 0), 0, api.ErrState},
		{"mending of a flaw that is lost on a plate that was retired", mend(1, 2), 0, api.ErrState},
	})
}

// P7.2, P7.12: plates have room for as many as the recipe says, also for retired ones.
func TestRoom(t *testing.T) {
	for mothers := 1; mothers <= 3; mothers++ {
		for stampers := 1; stampers <= 3; stampers++ {
			s := replay(t, easy(mothers, stampers), lacquer(1000), bath(api.MaxStock, 1), grow0(0))
			for i := range mothers {
				mother := do(t, s, grow0(1))
				for j := range stampers {
					do(t, s, retire(do(t, s, grow0(mother))))
					if p := s.Plates()[mother]; p.Grown != j+1 || p.Retired {
						t.Errorf("the mother after %d stampers: %v", j+1, p)
					}
				}
				if _, e := s.Do(grow0(mother)); e != api.ErrFull {
					t.Errorf("a stamper more than %d: %d", stampers, e)
				}
				do(t, s, retire(mother))
				if p := s.Plates()[1]; p.Grown != i+1 || p.Retired {
					t.Errorf("the father after %d mothers: %v", i+1, p)
				}
			}
			if _, e := s.Do(grow0(1)); e != api.ErrFull {
				t.Errorf("a mother more than %d: %d", mothers, e)
			}
		}
	}
}

// grow0 is a growth without a current.
func grow0(plate int) api.PlateAct { return api.PlateAct{Kind: api.DoGrow, Plate: plate} }

// P7.2: as many plates, baths and flaws as there may be.
func TestFull(t *testing.T) {
	s := example(t)
	for i := 1; i < api.MaxBaths; i++ {
		if n, e := s.Do(bath(int64(i), 500)); n != i || e != api.OK {
			t.Fatalf("the bath %d: %d, %d", i, n, e)
		}
	}
	if n, e := s.Do(bath(1, 1)); n != 0 || e != api.ErrFull {
		t.Errorf("a bath too many: %d, %d", n, e)
	}
	for i := range api.MaxFlaws {
		if n, e := s.Do(flaw(0, i)); n != i || e != api.OK {
			t.Fatalf("the flaw %d: %d, %d", i, n, e)
		}
	}
	if n, e := s.Do(flaw(0, 1)); n != 0 || e != api.ErrFull {
		t.Errorf("a flaw too many: %d, %d", n, e)
	}
	for i := 1; i < api.MaxPlates-1; i++ {
		if n, e := s.Do(lacquer(1000)); n != i || e != api.OK {
			t.Fatalf("the plate %d: %d, %d", i, n, e)
		}
	}
	if n, e := s.Do(grow(0)); n != api.MaxPlates-1 || e != api.OK || len(flaws(t, s, n)) != api.MaxFlaws {
		t.Fatalf("the last plate: %d, %d", n, e)
	}
	hot := grow(1)
	hot.Current = api.MaxFlow
	none := grow(api.MaxPlates)
	steps(t, s, []step{
		{"a lacquer too many", lacquer(1), 0, api.ErrFull},
		{"a growth too many", grow(1), 0, api.ErrFull},
		{"a growth too many, too hot", hot, 0, api.ErrFull},
		{"a growth on a retired plate", grow(0), 0, api.ErrState},
		{"a growth on no plate", none, 0, api.ErrNone},
		{"a flaw on a retired plate", flaw(0, 0), 0, api.ErrState},
		{"a flaw on no plate", flaw(api.MaxPlates, 0), 0, api.ErrNone},
		{"the last plate is retired", retire(api.MaxPlates - 1), 0, api.OK},
		{"a growth too many, though one is retired", grow(1), 0, api.ErrFull},
	})
}

// P7.2, P7.6, P7.8: as many acts as there may be; those with an error are not counted.
func TestManyMany(t *testing.T) {
	l := []api.PlateAct{lacquer(1000), bath(2000, 500)}
	for i := range api.MaxFlaws {
		l = append(l, flaw(0, i))
	}
	l = append(l, grow0(0), grow0(1))
	for range api.MaxGrown {
		l = append(l, grow0(2))
	}
	for i := 0; len(l) < api.MaxActs; i++ {
		l = append(l, mend(1+i/api.MaxFlaws, i%api.MaxFlaws))
	}
	r := easy(api.MaxGrown, api.MaxGrown)
	s := replay(t, r, l[:api.MaxActs-1]...)
	for range 3 {
		if _, e := s.Do(mend(1, 0)); e != api.ErrLost {
			t.Fatalf("mended twice: %d", e)
		}
	}
	do(t, s, l[api.MaxActs-1])
	for _, a := range []api.PlateAct{lacquer(1000), retire(1), retire(-1), grow0(0), {}, {Kind: api.DoGrow, Seconds: -1}} {
		if n, e := s.Do(a); n != 0 || e != api.ErrMany {
			t.Errorf("%v after %d acts: %d, %d", a, len(l), n, e)
		}
	}
	if !slices.Equal(s.Acts(), l) || !slices.Equal(s.Plates(), replay(t, r, l...).Plates()) {
		t.Errorf("other acts than those that were done")
	}
	if c := s.Copy(); len(c.Acts()) != api.MaxActs {
		t.Errorf("a copy has %d acts", len(c.Acts()))
	} else if _, e := c.Do(retire(1)); e != api.ErrMany {
		t.Errorf("one more act of a copy: %d", e)
	}
	if n, e := s.Seconds(grow0(1)); n != 0 || e != api.OK {
		t.Errorf("Seconds after %d acts: %d, %d", len(l), n, e)
	}
	for _, more := range []api.PlateAct{retire(1), {}} {
		if s, n, e := plating.Replay(r, append(slices.Clone(l), more, more)); s != nil || n != api.MaxActs || e != api.ErrMany {
			t.Errorf("Replay of too many: %d, %d", n, e)
		}
	}
}

// P7.8: Replay ends at the first act that returns an error.
func TestReplay(t *testing.T) {
	if s, n, e := plating.Replay(recipe(), nil); s == nil || n != 0 || e != api.OK || len(s.Acts()) != 0 {
		t.Errorf("Replay of nothing: %d, %d", n, e)
	}
	l := []api.PlateAct{lacquer(1000), bath(2000, 500), grow(0), flaw(1, 3), retire(1)}
	for i := range l {
		for _, x := range []struct {
			a api.PlateAct
			e api.Errno
		}{{api.PlateAct{}, api.ErrArg}, {grow(9), api.ErrNone}, {mend(-1, 0), api.ErrNone}} {
			if s, n, e := plating.Replay(recipe(), slices.Concat(l[:i], []api.PlateAct{x.a}, l[i:])); s != nil || n != i || e != x.e {
				t.Errorf("Replay with %v at %d: %d, %d", x.a, i, n, e)
			}
		}
	}
	if s, n, e := plating.Replay(recipe(), append(l, flaw(1, 3), api.PlateAct{})); s != nil || n != len(l) || e != api.ErrState {
		t.Errorf("Replay with a flaw on a retired plate: %d, %d", n, e)
	}
}

// P7.1, P7.8, P7.15: Replay of the acts of a shop, and a copy of it, are equal shops, and do what it does.
func TestEqualShops(t *testing.T) {
	r := rand.New(rand.NewSource(715))
	for range 60 {
		s, w := grown(t, r, 50)
		same(t, replay(t, w.r, s.Acts()...), w)
		c := s.Copy()
		same(t, c, w)
		ahead := &wanted{r: w.r}
		for _, a := range w.acts {
			ahead.do(a)
		}
		for range 30 {
			a := someAct(r, ahead)
			wantedNumber, wantedError := ahead.do(a)
			if n, e := c.Do(a); n != wantedNumber || e != wantedError {
				t.Fatalf("%v with a copy: %d, %d, not %d, %d", a, n, e, wantedNumber, wantedError)
			}
		}
		same(t, c, ahead)
		same(t, s, w)
		for range 30 {
			a := someAct(r, w)
			wantedNumber, wantedError := w.do(a)
			if n, e := s.Do(a); n != wantedNumber || e != wantedError {
				t.Fatalf("%v after a copy: %d, %d, not %d, %d", a, n, e, wantedNumber, wantedError)
			}
		}
		same(t, s, w)
		same(t, c, ahead)
	}
}
