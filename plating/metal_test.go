package plating_test

import (
	"math/rand"
	"testing"

	"deadwax/api"
	"deadwax/plating"
)

// one returns what a growth on a lacquer returns, and its thickness and its bath.
func one(t *testing.T, r api.Recipe, area, stock, yield int64, a api.PlateAct) (api.Errno, int64, api.Tank) {
	t.Helper()
	s := replay(t, r, lacquer(area), bath(stock, yield))
	a.Kind, a.Plate, a.Bath = api.DoGrow, 0, 0
	_, e := s.Do(a)
	if e != api.OK {
		return e, 0, s.Tanks()[0]
	}
	return e, s.Plates()[1].Thick, s.Tanks()[0]
}

// P7.2, P7.3: what is laid is rounded down, for the strike and for the rest, and so is the thickness.
func TestRounding(t *testing.T) {
	for _, x := range []struct {
		area, yield     int64
		strike          [2]int64
		current, second int64
		thick, laid     int64
	}{
		{1000, 1000, [2]int64{3, 1}, 4, 1, 7, 7},
		{1000, 999, [2]int64{1, 1}, 0, 0, 0, 0},
		{1000, 999, [2]int64{0, 0}, 1, 1, 0, 0},
		{1000, 500, [2]int64{3, 1}, 0, 0, 1, 1},
		{1000, 500, [2]int64{0, 0}, 3, 1, 1, 1},
		{1000, 500, [2]int64{3, 1}, 5, 1, 3, 3}, // 1.5 and 2.5
		{1000, 999, [2]int64{3, 7}, 11, 13, 162, 162},
		{7, 1000, [2]int64{0, 0}, 1, 1, 142, 1},
		{6, 1000, [2]int64{0, 0}, 1, 2, 333, 2},
		{999, 1, [2]int64{0, 0}, 400, 5, 2, 2},
		{999, 1, [2]int64{400, 5}, 400, 5, 4, 4},
	} {
		r := api.Recipe{Thick: [4]int64{0, 900, 0, 0}, Soft: api.MaxDense, Hard: api.MaxDense, Mothers: 1, Stampers: 1}
		a := api.PlateAct{Strike: x.strike, Current: x.current, Seconds: x.second}
		e, thick, tank := one(t, r, x.area, 1000, x.yield, a)
		charge := x.strike[0]*x.strike[1] + x.current*x.second
		if e != api.OK || thick != x.thick || tank != (api.Tank{Stock: 1000 - x.laid, Yield: x.yield, Charge: charge, Laid: x.laid}) {
			t.Errorf("%v: %d, the thickness %d, %v", x, e, thick, tank)
		}
	}
}

// P7.2: each bound of a growth, at it and beyond.
func TestBounds(t *testing.T) {
	// the area 400 has the greatest currents 20.4 and 30.8; the strike lays 40, and 100 for the thickness; the rest 240, and 700
	r := api.Recipe{Thin: [4]int64{0, 700, 0, 0}, Thick: [4]int64{0, 700, 0, 0}, Seed: 100, Soft: 51, Hard: 77, Mothers: 1, Stampers: 1}
	at := api.PlateAct{Strike: [2]int64{20, 2}, Current: 30, Seconds: 8}
	for name, x := range map[string]struct {
		stock  int64
		change func(*api.Recipe, *api.PlateAct)
		e      api.Errno
	}{
		"at all bounds":           {280, func(*api.Recipe, *api.PlateAct) {}, api.OK},
		"a strike too hot":        {280, func(_ *api.Recipe, a *api.PlateAct) { a.Strike = [2]int64{21, 1} }, api.ErrLimit},
		"a current too hot":       {280, func(_ *api.Recipe, a *api.PlateAct) { a.Current = 31 }, api.ErrLimit},
		"too hot for no time":     {280, func(_ *api.Recipe, a *api.PlateAct) { a.Current, a.Seconds = 31, 0 }, api.ErrLimit},
		"a density below":         {280, func(r *api.Recipe, _ *api.PlateAct) { r.Soft = 49 }, api.ErrLimit},
		"just the density":        {280, func(r *api.Recipe, _ *api.PlateAct) { r.Soft, r.Hard = 50, 75 }, api.OK},
		"a density below, later":  {280, func(r *api.Recipe, _ *api.PlateAct) { r.Hard = 74 }, api.ErrLimit},
		"a strike too thin":       {280, func(r *api.Recipe, _ *api.PlateAct) { r.Seed = 101 }, api.ErrRule},
		"too thin":                {280, func(r *api.Recipe, _ *api.PlateAct) { r.Thin[1], r.Thick[1] = 701, 701 }, api.ErrRule},
		"too thick":               {280, func(r *api.Recipe, _ *api.PlateAct) { r.Thin[1], r.Thick[1] = 699, 699 }, api.ErrRule},
		"too little stock":        {279, func(*api.Recipe, *api.PlateAct) {}, api.ErrOld},
		"of the kind of the next": {280, func(r *api.Recipe, _ *api.PlateAct) { r.Thin[2], r.Thick[2] = 800, 900 }, api.OK},
		"of the kind before":      {280, func(r *api.Recipe, _ *api.PlateAct) { r.Thin[0], r.Thick[0] = 800, 900 }, api.OK},
	} {
		recipe, a := r, at
		x.change(&recipe, &a)
		e, thick, tank := one(t, recipe, 400, x.stock, 1000, a)
		if e != x.e || e == api.OK && (thick != 700 || tank.Stock != 0) {
			t.Errorf("%s: %d, the thickness %d, %v", name, e, thick, tank)
		}
	}
}

// P7.2: each kind has its own thickness.
func TestKinds(t *testing.T) {
	r := api.Recipe{Thin: [4]int64{900, 100, 200, 300}, Thick: [4]int64{900, 100, 200, 300}, Hard: 500, Mothers: 1, Stampers: 1}
	s := replay(t, r, lacquer(1000), bath(600, 1000))
	for kind := 1; kind <= 3; kind++ {
		for _, current := range []int64{0, 99, 100, 101, 199, 200, 201, 299, 300, 301} {
			a := api.PlateAct{Kind: api.DoGrow, Plate: kind - 1, Current: current, Seconds: 1}
			want := api.ErrRule
			if current == int64(kind)*100 {
				want = api.OK
			}
			if n, e := s.Copy().Do(a); e != want || e == api.OK && n != kind {
				t.Errorf("the kind %d with %d: %d, %d", kind, current, n, e)
			}
		}
		do(t, s, api.PlateAct{Kind: api.DoGrow, Plate: kind - 1, Current: int64(kind) * 100, Seconds: 1})
	}
}

// R6: the greatest numbers that are valid.
func TestGreatGrowths(t *testing.T) {
	r := api.Recipe{Thick: [4]int64{0, api.MaxThick, 0, 0}, Soft: api.MaxDense, Hard: api.MaxDense, Mothers: 1, Stampers: 1}
	full, most := [2]int64{api.MaxFlow, api.MaxFlow}, api.PlateAct{Current: api.MaxFlow, Seconds: api.MaxFlow}
	e, thick, tank := one(t, r, api.MaxArea, api.MaxStock, api.MaxYield, most)
	if e != api.OK || thick != 1000<<20 || tank != (api.Tank{Yield: 1000, Charge: 1 << 40, Laid: 1 << 40}) {
		t.Errorf("a full current: %d, %d, %v", e, thick, tank)
	}
	e, thick, tank = one(t, r, api.MaxArea, api.MaxStock, api.MaxYield, api.PlateAct{Strike: full})
	if e != api.OK || thick != 1000<<20 || tank != (api.Tank{Yield: 1000, Charge: 1 << 40, Laid: 1 << 40}) {
		t.Errorf("a full strike: %d, %d, %v", e, thick, tank)
	}
	most.Strike = full
	if e, _, _ = one(t, r, api.MaxArea, api.MaxStock, api.MaxYield, most); e != api.ErrRule {
		t.Errorf("both full: %d", e)
	}
	e, thick, tank = one(t, r, api.MaxArea, api.MaxStock, 1, most)
	if want := int64(1<<40) / 1000 * 2; e != api.OK || thick != 1000*want>>20 || tank != (api.Tank{Stock: 1<<40 - want, Yield: 1, Charge: 2 << 40, Laid: want}) {
		t.Errorf("both full with the least yield: %d, %d, %v", e, thick, tank)
	}
	if e, _, _ = one(t, r, 1, api.MaxStock, api.MaxYield, most); e != api.ErrLimit {
		t.Errorf("both full on the least area: %d", e)
	}
	e, _, _ = one(t, r, 1049, api.MaxStock, api.MaxYield, api.PlateAct{Strike: [2]int64{1000, api.MaxFlow}, Current: 1000, Seconds: api.MaxFlow})
	if e != api.ErrRule {
		t.Errorf("both long on a small area: %d", e)
	}
}

// P7.11, P7.12: of many shops.
func TestMetal(t *testing.T) {
	r := rand.New(rand.NewSource(711))
	for range 200 {
		s, w := grown(t, r, 60)
		plates, tanks := s.Plates(), s.Tanks()
		least := make([]int64, len(tanks))
		for i, p := range plates {
			if p.Kind == api.PlateLacquer {
				if p.Thick != 0 || p.Parent != -1 || p.Grown > 1 || p.Grown == 1 && !p.Retired {
					t.Fatalf("the lacquer %d: %v", i, p)
				}
				continue
			}
			least[w.plates[i].bath] += p.Thick * p.Area
			if p.Thick < w.r.Thin[p.Kind] || p.Thick > w.r.Thick[p.Kind] || p.Grown > w.room(p.Kind) || p.Area != plates[p.Parent].Area || p.Cut != plates[p.Parent].Cut {
				t.Fatalf("the plate %d: %v", i, p)
			}
		}
		bath := 0
		for _, a := range s.Acts() {
			if a.Kind != api.DoBath {
				continue
			}
			x := tanks[bath]
			if x.Stock+x.Laid != a.Stock || x.Stock < 0 || 1000*x.Laid > x.Charge*x.Yield || 1000*x.Laid < least[bath] || x.Yield != a.Yield {
				t.Fatalf("the bath %d: %v, of %v", bath, x, a)
			}
			bath++
		}
		if bath != len(tanks) {
			t.Fatalf("%d baths, not %d", len(tanks), bath)
		}
	}
}

// wantedSeconds tries all seconds.
func wantedSeconds(w *wanted, a api.PlateAct) (int64, api.Errno) {
	if !validAct(a) || a.Kind != api.DoGrow {
		return 0, api.ErrArg
	}
	if e := w.upToHeat(a); e != api.OK {
		return 0, e
	}
	p, x := w.plates[a.Plate], w.tanks[a.Bath]
	strike := a.Strike[0] * a.Strike[1] * x.Yield / 1000
	for n := int64(0); n <= api.MaxFlow; n++ {
		metal := strike + a.Current*n*x.Yield/1000
		thick := 1000 * metal / p.Area
		if 1000*strike/p.Area >= w.r.Seed && w.r.Thin[p.Kind+1] <= thick && thick <= w.r.Thick[p.Kind+1] && metal <= x.Stock {
			return n, api.OK
		}
	}
	return 0, api.ErrPlan
}

// P7.6, P7.13
func TestSeconds(t *testing.T) {
	r := rand.New(rand.NewSource(713))
	seen := map[api.Errno]int{}
	none, long := 0, 0
	for range 120 {
		s, w := grown(t, r, 30)
		for range 25 {
			a := someAct(r, w)
			if r.Intn(3) == 0 {
				a.Current = r.Int63n(4)
			}
			want, wantedError := wantedSeconds(w, a)
			before := s.Copy()
			n, e := s.Seconds(a)
			if n != want || e != wantedError {
				t.Fatalf("Seconds of %v after %v with %v: %d, %d, not %d, %d", a, w.acts, w.r, n, e, want, wantedError)
			}
			same(t, s, w)
			seen[e]++
			if e != api.OK {
				continue
			}
			a.Seconds = n
			if _, e := before.Copy().Do(a); e != api.OK {
				t.Fatalf("%v: %d", a, e)
			}
			if n == 0 {
				none++
				continue
			}
			if n > 4 {
				long++
			}
			a.Seconds = n - 1
			if _, e := before.Copy().Do(a); e != api.ErrRule {
				t.Fatalf("%v, with 1 less: %d", a, e)
			}
		}
	}
	for _, e := range []api.Errno{api.OK, api.ErrArg, api.ErrNone, api.ErrState, api.ErrFull, api.ErrLimit, api.ErrPlan} {
		if seen[e] < 20 {
			t.Errorf("Seconds returned %d only %d times", e, seen[e])
		}
	}
	if none < 20 || long < 20 {
		t.Errorf("only %d times no seconds, and %d times many", none, long)
	}
}

// P7.6: examples, and the bounds of seconds.
func TestSecondsOfExamples(t *testing.T) {
	s := example(t, grow(0), grow(1), grow(2), retire(3), lacquer(1000))
	a := grow(1)
	a.Current = 100
	for _, seconds := range []int64{0, 1, 2, 3, api.MaxFlow} { // they do not matter
		a.Seconds = seconds
		if n, e := s.Seconds(a); n != 2 || e != api.OK {
			t.Errorf("with %d: %d, %d", seconds, n, e)
		}
	}
	for name, x := range map[string]struct {
		a api.PlateAct
		n int64
		e api.Errno
	}{
		"no current":              {api.PlateAct{Plate: 1, Strike: [2]int64{50, 1}}, 0, api.ErrPlan},
		"a strike that is enough": {api.PlateAct{Plate: 1, Strike: [2]int64{50, 4}, Current: 500}, 0, api.OK},
		"a strike too thick":      {api.PlateAct{Plate: 1, Strike: [2]int64{50, 37}}, 0, api.ErrPlan},
		"a strike too thin":       {api.PlateAct{Plate: 1, Strike: [2]int64{19, 1}, Current: 500}, 0, api.ErrPlan},
		"too hot":                 {api.PlateAct{Plate: 1, Strike: [2]int64{19, 1}, Current: 501}, 0, api.ErrLimit},
		"a slow current":          {api.PlateAct{Plate: 1, Strike: [2]int64{50, 1}, Current: 1}, 150, api.OK},
		"on a retired stamper":    {api.PlateAct{Plate: 3, Current: 501}, 0, api.ErrState},
		"on no plate":             {api.PlateAct{Plate: 5, Current: 501}, 0, api.ErrNone},
		"in no bath":              {api.PlateAct{Plate: 3, Bath: 1, Current: 501}, 0, api.ErrNone},
	} {
		x.a.Kind = api.DoGrow
		if n, e := s.Seconds(x.a); n != x.n || e != x.e {
			t.Errorf("%s: %d, %d", name, n, e)
		}
	}
	for kind := api.DoLacquer; kind <= api.DoRetire; kind++ {
		a := api.PlateAct{Kind: kind, Area: 1, Yield: 1, Plate: 9}
		if n, e := s.Seconds(a); kind != api.DoGrow && (n != 0 || e != api.ErrArg) {
			t.Errorf("the kind %d: %d, %d", kind, n, e)
		}
	}
}

// P7.6: the greatest number of seconds is possible, one more is not.
func TestMostSeconds(t *testing.T) {
	r := api.Recipe{Thin: [4]int64{0, api.MaxFlow, 0, 0}, Thick: [4]int64{0, api.MaxFlow, 0, 0}, Hard: 1, Mothers: 1, Stampers: 1}
	a := api.PlateAct{Kind: api.DoGrow, Current: 1}
	s := replay(t, r, lacquer(1000), bath(api.MaxFlow, 1000))
	if n, e := s.Seconds(a); n != api.MaxFlow || e != api.OK {
		t.Errorf("%d, %d", n, e)
	}
	a.Seconds = api.MaxFlow
	if _, e := s.Do(a); e != api.OK {
		t.Errorf("so many seconds: %d", e)
	}
	r.Thin[1], r.Thick[1] = api.MaxFlow+1, api.MaxFlow+1
	for _, stock := range []int64{api.MaxFlow, api.MaxFlow + 1, api.MaxStock} {
		s := replay(t, r, lacquer(1000), bath(stock, 1000))
		if n, e := s.Seconds(a); n != 0 || e != api.ErrPlan {
			t.Errorf("one unit thicker, with %d: %d, %d", stock, n, e)
		}
	}
}

// P7.6, R1: with less stock than the least seconds need there are none.
func TestSecondsWithoutStock(t *testing.T) {
	for stock := range int64(130) {
		s, _, e := plating.Replay(recipe(), []api.PlateAct{lacquer(1000), bath(stock, 500)})
		if e != api.OK {
			t.Fatalf("Replay: %d", e)
		}
		a := grow(0)
		a.Current = 100
		want, wantedError := int64(2), api.OK
		if stock < 125 {
			want, wantedError = 0, api.ErrPlan
		}
		if n, e := s.Seconds(a); n != want || e != wantedError {
			t.Errorf("with %d: %d, %d", stock, n, e)
		}
	}
}
