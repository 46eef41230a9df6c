package plating_test

import (
	"math"
	"testing"

	"deadwax/api"
	"deadwax/plating"
)

// validRecipes have each number as small and as great as it may be.
func validRecipes() []api.Recipe {
	least := api.Recipe{Mothers: 1, Stampers: 1}
	most := api.Recipe{Seed: api.MaxThick, Soft: api.MaxDense, Hard: api.MaxDense, Mothers: api.MaxGrown, Stampers: api.MaxGrown}
	for kind := 1; kind <= 3; kind++ {
		most.Thin[kind], most.Thick[kind] = api.MaxThick, api.MaxThick
	}
	l := []api.Recipe{recipe(), easy(1, 16), easy(16, 1), least, most}
	for _, x := range append(beyond(0, api.MaxThick), 0, 5) {
		of := recipe()
		of.Thin[0], of.Thick[0] = x, -x
		l = append(l, of)
	}
	for kind := 1; kind <= 3; kind++ {
		wide, narrow := recipe(), recipe()
		wide.Thin[kind], wide.Thick[kind] = 0, api.MaxThick
		narrow.Thin[kind] = narrow.Thick[kind]
		l = append(l, wide, narrow)
	}
	return l
}

// invalidRecipes are not valid for one reason.
func invalidRecipes() []api.Recipe {
	var l []api.Recipe
	add := func(change func(*api.Recipe)) {
		r := recipe()
		change(&r)
		l = append(l, r)
	}
	for kind := 1; kind <= 3; kind++ {
		add(func(r *api.Recipe) { r.Thin[kind] = r.Thick[kind] + 1 })
		for _, x := range beyond(0, api.MaxThick) {
			add(func(r *api.Recipe) { r.Thin[kind] = x })
			add(func(r *api.Recipe) { r.Thick[kind] = x })
			add(func(r *api.Recipe) { r.Thin[kind], r.Thick[kind] = x, x })
		}
	}
	for _, x := range beyond(0, api.MaxThick) {
		add(func(r *api.Recipe) { r.Seed = x })
	}
	for _, x := range beyond(0, api.MaxDense) {
		add(func(r *api.Recipe) { r.Soft = x })
		add(func(r *api.Recipe) { r.Hard = x })
	}
	for _, x := range beyond(1, api.MaxGrown) {
		add(func(r *api.Recipe) { r.Mothers = int(x) })
		add(func(r *api.Recipe) { r.Stampers = int(x) })
	}
	return l
}

// P7.1
func TestRecipes(t *testing.T) {
	for _, r := range validRecipes() {
		if e := plating.CheckRecipe(r); e != api.OK {
			t.Errorf("%v: %d", r, e)
		}
		s, e := plating.New(r)
		if s == nil || e != api.OK || len(s.Plates()) != 0 || len(s.Tanks()) != 0 || len(s.Acts()) != 0 {
			t.Errorf("New of %v: %v, %d", r, s, e)
		}
		if _, _, e := s.Origin(0); e != api.ErrNone {
			t.Errorf("New of %v has a flaw: %d", r, e)
		}
	}
	for _, r := range invalidRecipes() {
		if e := plating.CheckRecipe(r); e != api.ErrArg {
			t.Errorf("%v: %d", r, e)
		}
		if s, e := plating.New(r); s != nil || e != api.ErrArg {
			t.Errorf("New of %v: %v, %d", r, s, e)
		}
		if s, n, e := plating.Replay(r, []api.PlateAct{lacquer(1), {}}); s != nil || n != 0 || e != api.ErrArg {
			t.Errorf("Replay with %v: %v, %d, %d", r, s, n, e)
		}
	}
}

// result is what a function returns beside its error, and whether it is all zero.
type result struct {
	zero bool
	e    api.Errno
}

// methods are those that return an error; with arguments that are wrong, or not.
func methods(wrong bool) map[string]func(*plating.Shop) result {
	n, a := 0, retire(0)
	if wrong {
		n, a = -1, api.PlateAct{}
	}
	return map[string]func(*plating.Shop) result{
		"Do": func(s *plating.Shop) result {
			n, e := s.Do(a)
			return result{n == 0, e}
		},
		"Line": func(s *plating.Shop) result {
			l, e := s.Line(n)
			return result{len(l) == 0, e}
		},
		"CheckLine": func(s *plating.Shop) result { return result{true, s.CheckLine([]int{n})} },
		"CheckLine of nothing": func(s *plating.Shop) result {
			return result{true, s.CheckLine(nil)}
		},
		"Flaws": func(s *plating.Shop) result {
			l, e := s.Flaws(n)
			return result{len(l) == 0, e}
		},
		"Origin": func(s *plating.Shop) result {
			plate, place, e := s.Origin(n)
			return result{plate == 0 && place == 0, e}
		},
		"Bearers": func(s *plating.Shop) result {
			l, e := s.Bearers(n)
			return result{len(l) == 0, e}
		},
		"Seconds": func(s *plating.Shop) result {
			n, e := s.Seconds(a)
			return result{n == 0, e}
		},
		"Needs": func(s *plating.Shop) result {
			x, e := s.Needs(n, n)
			return result{x == 0, e}
		},
	}
}

// R4 and the first sentence of the promises: shops that New, Copy and Replay did not return.
func TestNoShops(t *testing.T) {
	assigned := *example(t, grow(0), flaw(1, 9))
	over := example(t)
	*over = *example(t, grow(0), flaw(1, 9))
	for name, s := range map[string]*plating.Shop{"nil": nil, "empty": {}, "new": new(plating.Shop), "assigned": &assigned, "assigned over": over} {
		for _, wrong := range []bool{false, true} {
			for method, f := range methods(wrong) {
				if got := f(s); got != (result{true, api.ErrNil}) {
					t.Errorf("%s of a shop that is %s: %v", method, name, got)
				}
			}
		}
		if l := s.Plates(); len(l) != 0 {
			t.Errorf("Plates of a shop that is %s: %v", name, l)
		}
		if l := s.Tanks(); len(l) != 0 {
			t.Errorf("Tanks of a shop that is %s: %v", name, l)
		}
		if l := s.Acts(); len(l) != 0 {
			t.Errorf("Acts of a shop that is %s: %v", name, l)
		}
		if c := s.Copy(); c != nil {
			t.Errorf("Copy of a shop that is %s: %v", name, c)
		}
	}
}

// R4: what New, Copy and Replay return is valid.
func TestShops(t *testing.T) {
	s, e := plating.New(recipe())
	if e != api.OK {
		t.Fatalf("New: %d", e)
	}
	for name, s := range map[string]*plating.Shop{"New": s, "Copy": s.Copy(), "Replay": example(t), "Copy of Copy": s.Copy().Copy()} {
		for method, f := range methods(true) {
			if got := f(s); got.e == api.ErrNil || got.e == api.OK || !got.zero {
				t.Errorf("%s of a shop of %s: %v", method, name, got)
			}
		}
	}
}

// validActs are acts with each number as small and as great as it may be; what their kind does not name is wrong.
func validActs() []api.PlateAct {
	l := []api.PlateAct{{Kind: api.DoMend}, {Kind: api.DoRetire}}
	for _, x := range []int64{0, api.MaxCut} {
		l = append(l, api.PlateAct{Kind: api.DoLacquer, Cut: x, Area: 1}, api.PlateAct{Kind: api.DoLacquer, Cut: x, Area: api.MaxArea})
	}
	for _, x := range []int64{0, api.MaxStock} {
		l = append(l, bath(x, 1), bath(x, api.MaxYield))
	}
	for _, x := range []int64{0, api.MaxFlow} {
		for _, y := range []int64{0, api.MaxFlow} {
			l = append(l, api.PlateAct{Kind: api.DoGrow, Strike: [2]int64{x, y}, Current: y, Seconds: x}, api.PlateAct{Kind: api.DoGrow, Strike: [2]int64{x, x}, Current: y, Seconds: y})
		}
	}
	l = append(l, flaw(0, 0), flaw(0, api.MaxAngle-1))
	for i, a := range l {
		l[i] = withOther(a)
	}
	return l
}

// withOther puts a wrong number where the kind of an act names none; there is no such plate, bath or flaw, either.
func withOther(a api.PlateAct) api.PlateAct {
	const wrong = math.MinInt64
	other := api.PlateAct{Kind: a.Kind, Cut: wrong, Area: wrong, Stock: wrong, Yield: wrong, Plate: wrong, Bath: wrong, Strike: [2]int64{wrong, wrong}, Current: wrong, Seconds: wrong, Place: wrong, Flaw: wrong}
	switch a.Kind {
	case api.DoLacquer:
		other.Cut, other.Area = a.Cut, a.Area
	case api.DoBath:
		other.Stock, other.Yield = a.Stock, a.Yield
	case api.DoGrow:
		other.Strike, other.Current, other.Seconds = a.Strike, a.Current, a.Seconds
	case api.DoFlaw:
		other.Place = a.Place
	}
	return other
}

// invalidActs are not valid for one reason.
func invalidActs() []api.PlateAct {
	var l []api.PlateAct
	for _, kind := range beyond(api.DoLacquer, api.DoRetire) {
		for _, a := range []api.PlateAct{lacquer(5), bath(5, 5), grow(0), flaw(0, 0), mend(0, 0), retire(0), {Area: 1, Yield: 1}} {
			a.Kind = int(kind)
			l = append(l, a)
		}
	}
	for _, x := range beyond(0, api.MaxCut) {
		l = append(l, api.PlateAct{Kind: api.DoLacquer, Cut: x, Area: 5})
	}
	for _, x := range beyond(1, api.MaxArea) {
		l = append(l, lacquer(x))
	}
	for _, x := range beyond(0, api.MaxStock) {
		l = append(l, bath(x, 5))
	}
	for _, x := range beyond(1, api.MaxYield) {
		l = append(l, bath(5, x))
	}
	for _, x := range beyond(0, api.MaxFlow) {
		for _, change := range []func(*api.PlateAct){
			func(a *api.PlateAct) { a.Strike[0] = x },
			func(a *api.PlateAct) { a.Strike[1] = x },
			func(a *api.PlateAct) { a.Current = x },
			func(a *api.PlateAct) { a.Seconds = x },
		} {
			a := grow(0)
			change(&a)
			l = append(l, a)
		}
	}
	for _, x := range beyond(0, api.MaxAngle-1) {
		l = append(l, flaw(0, int(x)))
	}
	return l
}

// P7.2, P7.6: acts that are valid, or not.
func TestValidActs(t *testing.T) {
	for _, a := range validActs() {
		s := example(t)
		want := api.ErrNone // there is no such plate
		if a.Kind == api.DoLacquer || a.Kind == api.DoBath {
			want = api.OK
		}
		if _, e := s.Do(a); e != want {
			t.Errorf("%v: %d, not %d", a, e, want)
		}
		if want == api.OK && s.Acts()[2] != a {
			t.Errorf("%v was done, and %v is told", a, s.Acts()[2])
		}
		want = api.ErrArg
		if a.Kind == api.DoGrow {
			want = api.ErrNone
		}
		if n, e := s.Seconds(a); n != 0 || e != want {
			t.Errorf("Seconds of %v: %d, %d", a, n, e)
		}
	}
	s := example(t)
	for _, a := range invalidActs() {
		for _, plate := range []int{0, -1, 1} { // the error comes before ErrNone
			a.Plate = plate
			if n, e := s.Do(a); n != 0 || e != api.ErrArg {
				t.Errorf("%v: %d, %d", a, n, e)
			}
			if n, e := s.Seconds(a); n != 0 || e != api.ErrArg {
				t.Errorf("Seconds of %v: %d, %d", a, n, e)
			}
		}
	}
	if len(s.Acts()) != 2 {
		t.Errorf("acts that are not valid were done: %v", s.Acts())
	}
}

// P1: whatever the arguments are, the functions end.
func TestAnyArguments(t *testing.T) {
	numbers := []int64{math.MinInt64, math.MinInt64 + 1, -1 << 40, -1, 0, 1, 2, 3, 1000, api.MaxFlow, 1 << 40, math.MaxInt64 - 1, math.MaxInt64}
	s := tree(t)
	for _, x := range numbers {
		for _, y := range numbers {
			plating.New(api.Recipe{Thin: [4]int64{x, x, x, x}, Thick: [4]int64{y, y, y, y}, Seed: x, Soft: y, Hard: x, Mothers: int(y), Stampers: int(x)})
			for kind := -1; kind < 8; kind++ {
				a := api.PlateAct{Kind: kind, Cut: x, Area: y, Stock: x, Yield: y, Plate: int(x), Bath: int(y), Strike: [2]int64{x, y}, Current: x, Seconds: y, Place: int(x), Flaw: int(y)}
				s.Seconds(a)
				c := s.Copy()
				c.Do(a)
				a.Plate, a.Bath, a.Seconds = 2, 0, x
				c.Seconds(a)
				c.Do(a)
				plating.Replay(recipe(), []api.PlateAct{a, a})
			}
			s.Line(int(x))
			s.CheckLine([]int{int(x), int(y)})
			s.Flaws(int(x))
			s.Origin(int(x))
			s.Bearers(int(x))
			s.Needs(int(x), int(y))
		}
	}
}
