package plating_test

import (
	"math"
	"math/big"
	"math/rand"
	"slices"
	"testing"

	"deadwax/api"
	"deadwax/plating"
)

// recipe is that of the chapter's examples.
func recipe() api.Recipe {
	return api.Recipe{Thin: [4]int64{0, 100, 100, 200}, Thick: [4]int64{0, 900, 900, 900}, Seed: 10, Soft: 50, Hard: 500, Mothers: 2, Stampers: 3}
}

// easy is a recipe with which each growth on a plate with room succeeds.
func easy(mothers, stampers int) api.Recipe {
	return api.Recipe{Thick: [4]int64{0, 900, 900, 900}, Hard: 500, Mothers: mothers, Stampers: stampers}
}

func lacquer(area int64) api.PlateAct { return api.PlateAct{Kind: api.DoLacquer, Cut: 7, Area: area} }

func bath(stock, yield int64) api.PlateAct {
	return api.PlateAct{Kind: api.DoBath, Stock: stock, Yield: yield}
}

// grow is a growth as in the chapter's examples.
func grow(plate int) api.PlateAct {
	return api.PlateAct{Kind: api.DoGrow, Plate: plate, Strike: [2]int64{50, 1}, Current: 500, Seconds: 1}
}

func flaw(plate, place int) api.PlateAct {
	return api.PlateAct{Kind: api.DoFlaw, Plate: plate, Place: place}
}

func mend(plate, flaw int) api.PlateAct {
	return api.PlateAct{Kind: api.DoMend, Plate: plate, Flaw: flaw}
}

func retire(plate int) api.PlateAct { return api.PlateAct{Kind: api.DoRetire, Plate: plate} }

func replay(t *testing.T, r api.Recipe, l ...api.PlateAct) *plating.Shop {
	t.Helper()
	s, n, e := plating.Replay(r, l)
	if e != api.OK || n != len(l) {
		t.Fatalf("Replay of %v with %v: %d, %d", l, r, n, e)
	}
	return s
}

// example is a shop with a lacquer and a bath of the chapter's examples, after more acts.
func example(t *testing.T, l ...api.PlateAct) *plating.Shop {
	t.Helper()
	return replay(t, recipe(), append([]api.PlateAct{lacquer(1000), bath(2000, 500)}, l...)...)
}

// tree is a shop with a lacquer, a father, two mothers, and two stampers of the first one.
func tree(t *testing.T) *plating.Shop {
	t.Helper()
	return example(t, grow(0), grow(1), grow(1), grow(2), grow(2))
}

func do(t *testing.T, s *plating.Shop, a api.PlateAct) int {
	t.Helper()
	n, e := s.Do(a)
	if e != api.OK {
		t.Fatalf("%v: %d", a, e)
	}
	return n
}

func line(t *testing.T, s *plating.Shop, plate int) []int {
	t.Helper()
	l, e := s.Line(plate)
	if e != api.OK {
		t.Fatalf("Line of %d: %d", plate, e)
	}
	return l
}

func flaws(t *testing.T, s *plating.Shop, plate int) []int {
	t.Helper()
	l, e := s.Flaws(plate)
	if e != api.OK {
		t.Fatalf("Flaws of %d: %d", plate, e)
	}
	return l
}

func bearers(t *testing.T, s *plating.Shop, flaw int) []int {
	t.Helper()
	l, e := s.Bearers(flaw)
	if e != api.OK {
		t.Fatalf("Bearers of %d: %d", flaw, e)
	}
	return l
}

// kept is what was done to a plate, and when: acts are counted.
type kept struct {
	api.Plate
	bath, grown int
	mended      map[int]int
}

// made is a flaw, and when it was made.
type made struct{ plate, place, at int }

// wanted follows the definitions of the chapter, in unlimited numbers.
type wanted struct {
	r      api.Recipe
	plates []kept
	tanks  []api.Tank
	flaws  []made
	acts   []api.PlateAct
}

func (w *wanted) do(a api.PlateAct) (int, api.Errno) {
	if len(w.acts) >= api.MaxActs {
		return 0, api.ErrMany
	}
	if !validAct(a) {
		return 0, api.ErrArg
	}
	n, e := 0, api.OK
	switch a.Kind {
	case api.DoLacquer:
		n, e = w.add(kept{Plate: api.Plate{Parent: -1, Cut: a.Cut, Area: a.Area}})
	case api.DoBath:
		if n = len(w.tanks); n >= api.MaxBaths {
			return 0, api.ErrFull
		}
		w.tanks = append(w.tanks, api.Tank{Stock: a.Stock, Yield: a.Yield})
	case api.DoGrow:
		n, e = w.grow(a)
	case api.DoFlaw:
		n, e = w.flaw(a)
	case api.DoMend, api.DoRetire:
		e = w.change(a)
	}
	if e == api.OK {
		w.acts = append(w.acts, a)
	}
	return n, e
}

func validAct(a api.PlateAct) bool {
	in := func(low, x, high int64) bool { return low <= x && x <= high }
	switch a.Kind {
	case api.DoLacquer:
		return in(0, a.Cut, 1<<40) && in(1, a.Area, 1<<20)
	case api.DoBath:
		return in(0, a.Stock, 1<<40) && in(1, a.Yield, 1000)
	case api.DoGrow:
		return in(0, min(a.Strike[0], a.Strike[1], a.Current, a.Seconds), 1<<20) && in(0, max(a.Strike[0], a.Strike[1], a.Current, a.Seconds), 1<<20)
	case api.DoFlaw:
		return in(0, int64(a.Place), 359)
	}
	return a.Kind == api.DoMend || a.Kind == api.DoRetire
}

func (w *wanted) add(p kept) (int, api.Errno) {
	if len(w.plates) >= api.MaxPlates {
		return 0, api.ErrFull
	}
	p.mended, p.grown = map[int]int{}, len(w.acts)
	w.plates = append(w.plates, p)
	return len(w.plates) - 1, api.OK
}

// product returns the product of numbers, divided and rounded down.
func product(by int64, l ...int64) *big.Int {
	p := big.NewInt(1)
	for _, x := range l {
		p.Mul(p, big.NewInt(x))
	}
	return p.Div(p, big.NewInt(by))
}

// laid returns the metal of a growth: that of the strike, and that of both together.
func (w *wanted) laid(a api.PlateAct) (*big.Int, *big.Int) {
	yield := w.tanks[a.Bath].Yield
	strike, rest := product(1000, a.Strike[0], a.Strike[1], yield), product(1000, a.Current, a.Seconds, yield)
	return strike, rest.Add(rest, strike)
}

// room returns on how many plates one can be the parent in all.
func (w *wanted) room(kind int) int { return []int{1, w.r.Mothers, w.r.Stampers, 0}[kind] }

func (w *wanted) grow(a api.PlateAct) (int, api.Errno) {
	if e := w.check(a); e != api.OK {
		return 0, e
	}
	p, t := &w.plates[a.Plate], &w.tanks[a.Bath]
	_, metal := w.laid(a)
	t.Stock, t.Laid = t.Stock-metal.Int64(), t.Laid+metal.Int64()
	t.Charge += a.Strike[0]*a.Strike[1] + a.Current*a.Seconds
	p.Grown++
	p.Retired = p.Kind == api.PlateLacquer
	return w.add(kept{Plate: api.Plate{Kind: p.Kind + 1, Parent: a.Plate, Cut: p.Cut, Area: p.Area, Thick: thickness(metal, p.Area).Int64()}, bath: a.Bath})
}

// check returns the error of a growth.
func (w *wanted) check(a api.PlateAct) api.Errno {
	if e := w.upToHeat(a); e != api.OK {
		return e
	}
	p := w.plates[a.Plate]
	strike, metal := w.laid(a)
	seed, thick := thickness(strike, p.Area), thickness(metal, p.Area)
	if less(seed, w.r.Seed) || less(thick, w.r.Thin[p.Kind+1]) || !less(thick, w.r.Thick[p.Kind+1]+1) {
		return api.ErrRule
	}
	if !less(metal, w.tanks[a.Bath].Stock+1) {
		return api.ErrOld
	}
	return api.OK
}

// upToHeat returns the errors of a growth up to ErrLimit.
func (w *wanted) upToHeat(a api.PlateAct) api.Errno {
	if a.Plate < 0 || a.Plate >= len(w.plates) || a.Bath < 0 || a.Bath >= len(w.tanks) {
		return api.ErrNone
	}
	p := w.plates[a.Plate]
	if p.Retired {
		return api.ErrState
	}
	if p.Grown >= w.room(p.Kind) || len(w.plates) >= api.MaxPlates {
		return api.ErrFull
	}
	if product(1, a.Strike[0], 1000).Cmp(product(1, w.r.Soft, p.Area)) > 0 || product(1, a.Current, 1000).Cmp(product(1, w.r.Hard, p.Area)) > 0 {
		return api.ErrLimit
	}
	return api.OK
}

func thickness(metal *big.Int, area int64) *big.Int {
	thousand := new(big.Int).Mul(metal, big.NewInt(1000))
	return thousand.Div(thousand, big.NewInt(area))
}

func less(x *big.Int, y int64) bool { return x.Cmp(big.NewInt(y)) < 0 }

func (w *wanted) flaw(a api.PlateAct) (int, api.Errno) {
	if a.Plate < 0 || a.Plate >= len(w.plates) {
		return 0, api.ErrNone
	}
	if w.plates[a.Plate].Retired {
		return 0, api.ErrState
	}
	if len(w.flaws) >= api.MaxFlaws {
		return 0, api.ErrFull
	}
	w.flaws = append(w.flaws, made{a.Plate, a.Place, len(w.acts)})
	return len(w.flaws) - 1, api.OK
}

// change mends or retires.
func (w *wanted) change(a api.PlateAct) api.Errno {
	if a.Plate < 0 || a.Plate >= len(w.plates) || a.Kind == api.DoMend && (a.Flaw < 0 || a.Flaw >= len(w.flaws)) {
		return api.ErrNone
	}
	p := &w.plates[a.Plate]
	if p.Retired {
		return api.ErrState
	}
	if a.Kind == api.DoRetire {
		p.Retired = true
		return api.OK
	}
	if !w.bears(a.Plate, a.Flaw, len(w.acts)) {
		return api.ErrLost
	}
	p.mended[a.Flaw] = len(w.acts)
	return api.OK
}

// bears reports whether a plate bore a flaw before an act.
func (w *wanted) bears(plate, flaw, at int) bool {
	p, f := w.plates[plate], w.flaws[flaw]
	if mended, ok := p.mended[flaw]; ok && mended < at {
		return false
	}
	if plate == f.plate {
		return f.at < at
	}
	return p.Parent >= 0 && p.grown < at && w.bears(p.Parent, flaw, p.grown)
}

// line follows the parents of a plate.
func (w *wanted) line(plate int) []int {
	var l []int
	for ; plate >= 0; plate = w.plates[plate].Parent {
		l = append(l, plate)
	}
	slices.Reverse(l)
	return l
}

// told are the plates as Plates returns them.
func (w *wanted) told() []api.Plate {
	var l []api.Plate
	for _, p := range w.plates {
		l = append(l, p.Plate)
	}
	return l
}

// someRecipe returns a recipe of small numbers, with which many growths are possible.
func someRecipe(r *rand.Rand) api.Recipe {
	x := api.Recipe{Seed: r.Int63n(60), Soft: 20 + r.Int63n(60), Hard: 200 + r.Int63n(600), Mothers: 1 + r.Intn(3), Stampers: 1 + r.Intn(3)}
	for kind := range x.Thin {
		x.Thin[kind] = r.Int63n(300)
		x.Thick[kind] = x.Thin[kind] + r.Int63n(900)
	}
	return x
}

// someAct returns an act that is often possible in the shop.
func someAct(r *rand.Rand, w *wanted) api.PlateAct {
	a := api.PlateAct{Kind: 1 + r.Intn(6), Cut: r.Int63n(9), Area: 1 + r.Int63n(999), Stock: r.Int63n(3000), Yield: 1 + r.Int63n(1000), Place: r.Intn(360)}
	a.Plate, a.Bath, a.Flaw = someNumber(r, len(w.plates)), someNumber(r, len(w.tanks)), someNumber(r, len(w.flaws))
	a.Strike = [2]int64{r.Int63n(60), r.Int63n(5)}
	a.Current, a.Seconds = r.Int63n(500), r.Int63n(5)
	switch {
	case r.Intn(3) == 0 || len(w.plates) > 0 && len(w.tanks) > 0 && r.Intn(3) > 0:
		a.Kind = api.DoGrow
	case a.Kind == api.DoRetire && r.Intn(3) > 0:
		a.Kind = api.DoMend
	}
	for tries := r.Intn(40); a.Kind == api.DoGrow && tries > 0 && w.check(a) != api.OK; tries-- {
		a.Plate, a.Bath = someNumber(r, len(w.plates)), someNumber(r, len(w.tanks))
		a.Strike = [2]int64{r.Int63n(60), r.Int63n(5)}
		a.Current, a.Seconds = r.Int63n(500), r.Int63n(5)
	}
	if r.Intn(30) == 0 {
		a.Kind, a.Area, a.Yield, a.Seconds, a.Place = r.Intn(9)-1, 0, 0, -1, -1
	}
	return a
}

// someNumber returns a number of n things, rarely one that there is not; later ones more often.
func someNumber(r *rand.Rand, n int) int {
	if n == 0 || r.Intn(12) == 0 {
		return r.Intn(n+3) - 1
	}
	return max(r.Intn(n), r.Intn(n))
}

// grown returns a shop after some acts that were possible, and what is wanted of it.
func grown(t *testing.T, r *rand.Rand, acts int) (*plating.Shop, *wanted) {
	t.Helper()
	w := &wanted{r: someRecipe(r)}
	for _, a := range []api.PlateAct{lacquer(1 + r.Int63n(999)), bath(1<<40, 1+r.Int63n(1000)), bath(r.Int63n(4000), 999)} {
		w.do(a)
	}
	for range acts {
		w.do(someAct(r, w))
	}
	return replay(t, w.r, w.acts...), w
}

// beyond are numbers that are not from least to most.
func beyond(least, most int64) []int64 {
	return []int64{least - 1, most + 1, least - 1<<41, most + 1<<41, math.MinInt64, math.MinInt64 + 1, math.MaxInt64, math.MaxInt64 - 1}
}
