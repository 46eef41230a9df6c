package press_test

import (
	"math"
	"math/rand"
	"slices"
	"testing"

	"deadwax/api"
	"deadwax/press"
)

// step is an act, and what it returns.
type step struct {
	a api.Act
	d api.Disc
	e api.Errno
}

// steps does acts, one after the other; those with an error must not change the press.
func steps(t *testing.T, p *press.Press, l ...step) {
	t.Helper()
	for i, x := range l {
		before, discs := state(t, p), p.Discs()
		d, e := p.Do(x.a)
		if d != x.d || e != x.e {
			t.Errorf("%d: %v: %v, %d, not %v, %d", i, x.a, d, e, x.d, x.e)
		}
		if e != api.OK && (state(t, p) != before || !slices.Equal(p.Discs(), discs)) {
			t.Errorf("%d: %v changes the press", i, x.a)
		}
	}
}

// good are acts that succeed without a disc.
func good(l ...api.Act) []step {
	var all []step
	for _, a := range l {
		all = append(all, step{a: a})
	}
	return all
}

func bad(a api.Act, e api.Errno) step { return step{a: a, e: e} }

// P8.2, P8.3: the chapter's examples.
func TestExamples(t *testing.T) {
	p := newPress(t, machine())
	if s := state(t, p); s != (api.Pressing{Temp: 20}) || len(p.Discs()) != 0 {
		t.Errorf("a new press: %v, %v", s, p.Discs())
	}
	steps(t, p, good(mount(7, 8), load())...)
	steps(t, p, bad(valve(api.ValveSteam), api.ErrHot))
	steps(t, p, good(shut(), valve(api.ValveSteam), wait(4))...)
	steps(t, p, bad(open(), api.ErrHot))
	want := api.Pressing{Closed: true, Loaded: true, Valve: api.ValveSteam, Temp: 140, Held: 1, Peak: 140, Time: 4, A: 7, B: 8}
	if s := state(t, p); s != want {
		t.Errorf("the state is %v, not %v", s, want)
	}
	steps(t, p, good(valve(api.ValveShut), wait(4), valve(api.ValveWater), wait(3))...)
	disc := api.Disc{Serial: 1, A: 7, B: 8, Time: 11, Held: 5, Peak: 140, Good: true}
	steps(t, p, step{open(), disc, api.OK})
	want = api.Pressing{Valve: api.ValveWater, Temp: 45, Held: 5, Peak: 140, Time: 11, A: 7, B: 8}
	if s := state(t, p); s != want || !slices.Equal(p.Discs(), []api.Disc{disc}) {
		t.Errorf("the state is %v, not %v, with %v", s, want, p.Discs())
	}
}

// same compares all that a press tells with what is wanted, and looks for what never is.
func same(t *testing.T, p *press.Press, w *wanted) {
	t.Helper()
	s := state(t, p)
	if s != w.s || !slices.Equal(p.Discs(), w.discs) {
		t.Fatalf("%v with %v is %v with %v", w.s, w.discs, s, p.Discs())
	}
	if !s.Closed && (s.Valve == api.ValveSteam || s.Temp > w.m.Cool) || s.Closed && !s.Loaded || s.Temp < w.m.Room || s.Temp > w.m.Top {
		t.Fatalf("a press of %v must not be %v", w.m, s)
	}
	for stamper := int64(-1); stamper < 10; stamper++ {
		l := p.Of(stamper)
		if !slices.Equal(l, w.of(stamper)) || int64(len(l)) > w.m.Life {
			t.Fatalf("Of %d: %v, not %v, after %v", stamper, l, w.of(stamper), w.discs)
		}
	}
}

// doSome does some act, compares it and the press with what is wanted, and returns the act and its error.
func doSome(t *testing.T, r *rand.Rand, p *press.Press, w *wanted) (api.Act, api.Errno) {
	t.Helper()
	a, before := someAct(r, w), w.s
	wantedDisc, wantedError := w.do(a)
	d, e := p.Do(a)
	if d != wantedDisc || e != wantedError {
		t.Fatalf("%v for %v at %v: %v, %d, not %v, %d", a, w.m, before, d, e, wantedDisc, wantedError)
	}
	same(t, p, w)
	return a, e
}

// P8.2, P8.3, P8.8, P8.9, P8.10, P8.15: what many acts return and do, and that those with an error change nothing.
func TestManyActs(t *testing.T) {
	r := rand.New(rand.NewSource(83))
	type kind struct {
		kind int
		e    api.Errno
	}
	seen := map[kind]int{}
	discs := map[bool]int{}
	for range 300 {
		w := newWanted(someMachine(r, 40, 3, 3))
		p := newPress(t, w.m)
		for range 150 {
			a, e := doSome(t, r, p, w)
			seen[kind{a.Kind, e}]++
		}
		for _, d := range w.discs {
			discs[d.Good]++
			if d.Good && d.Peak < w.m.Melt {
				t.Errorf("a good disc of %v: %v", w.m, d)
			}
		}
	}
	for _, k := range []kind{
		{api.ActMount, api.OK}, {api.ActMount, api.ErrRange}, {api.ActMount, api.ErrEqual}, {api.ActMount, api.ErrHot}, {api.ActMount, api.ErrState}, {api.ActMount, api.ErrOld},
		{api.ActLoad, api.OK}, {api.ActLoad, api.ErrHot}, {api.ActLoad, api.ErrState}, {api.ActLoad, api.ErrOld}, {api.ActClose, api.OK}, {api.ActClose, api.ErrState},
		{api.ActValve, api.OK}, {api.ActValve, api.ErrRange}, {api.ActValve, api.ErrHot}, {api.ActWait, api.OK}, {api.ActWait, api.ErrRange},
		{api.ActOpen, api.OK}, {api.ActOpen, api.ErrState}, {api.ActOpen, api.ErrHot}, {-1, api.ErrArg}, {0, api.ErrArg}, {7, api.ErrArg},
	} {
		if seen[k] < 5 {
			t.Errorf("the kind %d had the error %d only %d times", k.kind, k.e, seen[k])
		}
	}
	if discs[true] < 100 || discs[false] < 100 {
		t.Errorf("good discs, and others: %v", discs)
	}
}

// P8.3: kinds that there are not.
func TestKinds(t *testing.T) {
	p := newPress(t, machine())
	for _, kind := range append(beyond(api.ActMount, api.ActOpen), 1<<32+1) {
		steps(t, p, bad(api.Act{Kind: int(kind), A: 1, B: 2}, api.ErrArg))
	}
}

// P8.3: the errors of mounting come in their order, with stampers from 1 to MaxNumber.
func TestMountErrors(t *testing.T) {
	p := newPress(t, quick(1))
	do(t, p, mount(1, api.MaxNumber), mount(api.MaxNumber, 1), mount(5, 6))
	do(t, p, cycle()...)
	wrong := func(s ...step) {
		t.Helper()
		for _, n := range beyond(1, api.MaxNumber) {
			steps(t, p, bad(mount(n, 5), api.ErrRange), bad(mount(5, n), api.ErrRange), bad(mount(n, n), api.ErrRange))
		}
		steps(t, p, s...)
	}
	wrong(bad(mount(5, 5), api.ErrEqual), bad(mount(5, 7), api.ErrOld), bad(mount(7, 5), api.ErrOld), bad(mount(6, 5), api.ErrOld))
	do(t, p, mount(7, 8), load())
	wrong(bad(mount(5, 5), api.ErrEqual), bad(mount(5, 6), api.ErrState), bad(mount(9, 10), api.ErrState), bad(mount(7, 8), api.ErrState))
	do(t, p, shut())
	wrong(bad(mount(5, 5), api.ErrEqual), bad(mount(5, 6), api.ErrHot), bad(mount(9, 10), api.ErrHot))
}

// P8.3: the errors of loading, closing and opening come in their order.
func TestOtherErrors(t *testing.T) {
	p := newPress(t, quick(1))
	steps(t, p, bad(load(), api.ErrState), bad(shut(), api.ErrState), bad(open(), api.ErrState), bad(valve(api.ValveSteam), api.ErrHot))
	do(t, p, mount(1, 2), load())
	steps(t, p, bad(load(), api.ErrState), bad(open(), api.ErrState), bad(valve(api.ValveSteam), api.ErrHot))
	do(t, p, shut(), valve(api.ValveSteam))
	// It is not hot yet, but its valve is open.
	steps(t, p, bad(load(), api.ErrHot), bad(shut(), api.ErrState), bad(open(), api.ErrHot))
	do(t, p, wait(1), valve(api.ValveShut))
	steps(t, p, bad(open(), api.ErrHot))
	do(t, p, wait(5))
	if d := do(t, p, open()); d != (api.Disc{Serial: 1, A: 1, B: 2, Time: 6, Held: 1, Peak: 100, Good: true}) {
		t.Errorf("a disc at the temperature Cool: %v", d)
	}
	steps(t, p, bad(open(), api.ErrState), bad(shut(), api.ErrState), bad(load(), api.ErrOld), bad(valve(api.ValveSteam), api.ErrHot))
	for _, n := range append(beyond(api.ValveShut, api.ValveWater), 1<<32, 1<<32+1) {
		steps(t, p, bad(valve(n), api.ErrRange))
	}
	for _, n := range append(beyond(1, api.MaxWait), 1<<32+1) {
		steps(t, p, bad(wait(n), api.ErrRange))
	}
}

// P8.3: one degree above Cool is too hot to open.
func TestJustTooHot(t *testing.T) {
	for over := range int64(3) {
		m := quick(1)
		m.Cool, m.Top = 99-over, 100
		m.Drift = 1
		p := newPress(t, m)
		do(t, p, mount(1, 2), load(), shut(), valve(api.ValveSteam), wait(1), valve(api.ValveShut))
		for range over + 1 {
			steps(t, p, bad(open(), api.ErrHot))
			do(t, p, wait(1))
		}
		if d := do(t, p, open()); d.Time != over+2 || state(t, p).Temp != m.Cool {
			t.Errorf("%v came at %v", d, state(t, p))
		}
	}
}

// P8.3: numbers that an act does not need do not matter.
func TestOtherNumbers(t *testing.T) {
	for _, n := range []int64{math.MinInt64, -1, 0, 7, math.MaxInt64} {
		p := newPress(t, quick(1))
		do(t, p, mount(1, 2))
		for _, a := range cycle() {
			if a.Kind == api.ActLoad || a.Kind == api.ActClose || a.Kind == api.ActOpen {
				a.A = n
			}
			a.B = n
			do(t, p, a)
		}
		if l := p.Discs(); !slices.Equal(l, []api.Disc{{Serial: 1, A: 1, B: 2, Time: 2, Held: 1, Peak: 100, Good: true}}) {
			t.Errorf("with %d: %v", n, l)
		}
	}
}

// P8.2, P8.3: Held and Peak stay when a press is open, and begin anew when it closes, Peak at the temperature of the press.
func TestHeldAndPeak(t *testing.T) {
	m := api.Machine{Room: 20, Melt: 60, Cool: 50, Top: 100, Heat: 50, Chill: 60, Drift: 1, Hold: 2, Life: 9}
	p := newPress(t, m)
	do(t, p, mount(1, 2), load(), shut(), valve(api.ValveSteam), wait(2), valve(api.ValveWater), wait(1), valve(api.ValveShut))
	if d := do(t, p, open()); d.Held != 2 || d.Peak != 100 || !d.Good {
		t.Errorf("the first disc: %v", d)
	}
	do(t, p, load(), wait(10))
	if s := state(t, p); s.Temp != 30 || s.Held != 2 || s.Peak != 100 || s.Time != 13 {
		t.Errorf("open, after ten ticks: %v", s)
	}
	do(t, p, shut())
	if s := state(t, p); s.Held != 0 || s.Peak != 30 {
		t.Errorf("closed: %v", s)
	}
	do(t, p, wait(5))
	if d := do(t, p, open()); d.Serial != 2 || d.Held != 0 || d.Peak != 30 || d.Good || d.Time != 18 {
		t.Errorf("the second disc: %v", d)
	}
}

// P8.3: a disc is good from Hold ticks at Melt on.
func TestGood(t *testing.T) {
	for _, hold := range []int64{1, 2, api.MaxHold} {
		for _, held := range []int64{0, hold - 1, hold, hold + 1} {
			m := quick(1)
			m.Hold = hold
			p := newPress(t, m)
			do(t, p, mount(1, 2), load(), shut())
			if held > 0 {
				do(t, p, valve(api.ValveSteam), wait(held), valve(api.ValveWater), wait(1))
			}
			if d := do(t, p, open()); d.Held != held || d.Good != (held >= hold) || (d.Peak >= m.Melt) != (held > 0) {
				t.Errorf("after %d of %d ticks: %v", held, hold, d)
			}
		}
	}
}

// P8.3, P8.9: stampers are used up after Life discs, on either side.
func TestLife(t *testing.T) {
	for life := int64(1); life <= 4; life++ {
		p := newPress(t, quick(life))
		for n := range life {
			do(t, p, mount(1+n%2, 2-n%2))
			if d := do(t, p, cycle()...); d.Serial != n+1 || d.A != 1+n%2 || d.B != 2-n%2 {
				t.Errorf("the disc %d of %d: %v", n+1, life, d)
			}
		}
		steps(t, p, bad(load(), api.ErrOld), bad(mount(1, 3), api.ErrOld), bad(mount(3, 2), api.ErrOld))
		do(t, p, mount(3, 4))
		if l := p.Of(1); int64(len(l)) != life || len(p.Of(3)) != 0 {
			t.Errorf("%d discs: %v, %v", life, l, p.Of(3))
		}
	}
}

// P8.3, P8.9: one of both stampers is used up, and is mounted yet.
func TestOneUsedUp(t *testing.T) {
	p := newPress(t, quick(2))
	do(t, p, mount(1, 2))
	do(t, p, cycle()...)
	do(t, p, mount(3, 1))
	do(t, p, cycle()...)
	steps(t, p, bad(load(), api.ErrOld))
	do(t, p, mount(2, 3))
	do(t, p, cycle()...)
	steps(t, p, bad(load(), api.ErrOld))
	if !slices.Equal(p.Of(1), []int64{1, 2}) || !slices.Equal(p.Of(2), []int64{1, 3}) || !slices.Equal(p.Of(3), []int64{2, 3}) || len(p.Of(0)) != 0 {
		t.Errorf("the discs of the stampers: %v, %v, %v, %v", p.Of(1), p.Of(2), p.Of(3), p.Of(0))
	}
}

// P8.3: as many discs as may come out.
func TestFull(t *testing.T) {
	p := newPress(t, quick(api.MaxDiscs))
	do(t, p, mount(1, 2))
	for n := range api.MaxDiscs {
		if d := do(t, p, cycle()...); d.Serial != int64(n+1) {
			t.Fatalf("the disc %d: %v", n+1, d)
		}
	}
	steps(t, p, bad(load(), api.ErrOld))
	do(t, p, mount(3, 4))
	steps(t, p, bad(load(), api.ErrFull), bad(shut(), api.ErrState))
	if len(p.Discs()) != api.MaxDiscs || len(p.Of(1)) != api.MaxDiscs || len(p.Of(3)) != 0 {
		t.Errorf("%d discs, %d of 1, %d of 3", len(p.Discs()), len(p.Of(1)), len(p.Of(3)))
	}
	do(t, p, wait(1))
}

// P8.3: the time is at most MaxNumber.
func TestTime(t *testing.T) {
	p := newPress(t, quick(1))
	do(t, p, mount(1, 2), load(), shut(), valve(api.ValveSteam))
	const waits, rest = api.MaxNumber / api.MaxWait, api.MaxNumber % api.MaxWait
	for range waits {
		if _, e := p.Do(wait(api.MaxWait)); e != api.OK {
			t.Fatalf("at %v: %d", state(t, p), e)
		}
	}
	steps(t, p, bad(wait(rest+1), api.ErrLimit), bad(wait(api.MaxWait), api.ErrLimit), bad(wait(api.MaxWait+1), api.ErrRange), bad(wait(0), api.ErrRange))
	do(t, p, wait(rest-1), valve(api.ValveWater), wait(1))
	steps(t, p, bad(wait(1), api.ErrLimit), bad(wait(math.MaxInt64), api.ErrRange))
	if d := do(t, p, open()); d != (api.Disc{Serial: 1, A: 1, B: 2, Time: api.MaxNumber, Held: api.MaxNumber - 1, Peak: 100, Good: true}) {
		t.Errorf("the disc %v", d)
	}
	steps(t, p, bad(wait(1), api.ErrLimit))
}

// P8.3: many ticks at once are the same as one by one.
func TestTicksOneByOne(t *testing.T) {
	r := rand.New(rand.NewSource(8))
	for range 300 {
		m := someMachine(r, 400, 1, 64)
		one, all := newPress(t, m), newPress(t, m)
		do(t, one, mount(1, 2), load(), shut())
		do(t, all, mount(1, 2), load(), shut())
		for range 8 {
			v, ticks := valve(r.Int63n(3)), upTo(r, 1, 60)
			do(t, one, v)
			do(t, all, v, wait(ticks))
			for range ticks {
				do(t, one, wait(1))
			}
			if state(t, one) != state(t, all) {
				t.Fatalf("%d ticks of %v: %v, one by one %v", ticks, m, state(t, all), state(t, one))
			}
		}
	}
}
