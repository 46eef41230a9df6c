package press_test

import (
	"math"
	"math/rand"
	"testing"

	"deadwax/api"
	"deadwax/press"
)

// machine is that of the chapter's examples.
func machine() api.Machine {
	return api.Machine{Room: 20, Melt: 120, Cool: 50, Top: 200, Heat: 30, Chill: 25, Drift: 5, Hold: 3, Life: 2}
}

// quick is a machine with which a disc is good after three ticks: steam, and twice water.
func quick(life int64) api.Machine {
	return api.Machine{Room: 20, Melt: 100, Cool: 50, Top: 100, Heat: 80, Chill: 80, Drift: 10, Hold: 1, Life: life}
}

func mount(a, b int64) api.Act { return api.Act{Kind: api.ActMount, A: a, B: b} }

func load() api.Act { return api.Act{Kind: api.ActLoad} }

func shut() api.Act { return api.Act{Kind: api.ActClose} }

func valve(n int64) api.Act { return api.Act{Kind: api.ActValve, A: n} }

func wait(ticks int64) api.Act { return api.Act{Kind: api.ActWait, A: ticks} }

func open() api.Act { return api.Act{Kind: api.ActOpen} }

// cycle are the acts that press a good disc with a quick machine, when stampers are mounted.
func cycle() []api.Act {
	return []api.Act{load(), shut(), valve(api.ValveSteam), wait(1), valve(api.ValveWater), wait(1), open()}
}

func newPress(t *testing.T, m api.Machine) *press.Press {
	t.Helper()
	p, e := press.New(m)
	if e != api.OK || p == nil {
		t.Fatalf("New of %v: %d", m, e)
	}
	return p
}

// do does acts, and returns the disc of the last one.
func do(t *testing.T, p *press.Press, l ...api.Act) api.Disc {
	t.Helper()
	var d api.Disc
	for _, a := range l {
		var e api.Errno
		if d, e = p.Do(a); e != api.OK {
			t.Fatalf("%v: %d", a, e)
		}
	}
	return d
}

func state(t *testing.T, p *press.Press) api.Pressing {
	t.Helper()
	s, e := p.State()
	if e != api.OK {
		t.Fatalf("State: %d", e)
	}
	return s
}

// wantedValid follows the chapter's definition of a machine.
func wantedValid(m api.Machine) bool {
	in := func(low, x, high int64) bool { return low <= x && x <= high }
	order := 0 <= m.Room && m.Room <= m.Cool && m.Cool < m.Melt && m.Melt <= m.Top && m.Top <= 400
	return order && in(1, m.Heat, 400) && in(1, m.Chill, 400) && in(0, m.Drift, 400) && in(1, m.Hold, 64) && in(1, m.Life, 65536)
}

// wantedTick follows the chapter's definition of a tick.
func wantedTick(m api.Machine, temp int64, valve int) int64 {
	temp += []int64{-m.Drift, m.Heat, -m.Chill}[valve]
	if valve == api.ValveSteam && temp > m.Top {
		return m.Top
	}
	if valve != api.ValveSteam && temp < m.Room {
		return m.Room
	}
	return temp
}

// wanted follows the chapter's definition of a press.
type wanted struct {
	m     api.Machine
	s     api.Pressing
	discs []api.Disc
	used  map[int64]int64
}

func newWanted(m api.Machine) *wanted {
	return &wanted{m: m, s: api.Pressing{Temp: m.Room}, used: map[int64]int64{}}
}

// check returns the error of an act: the first one of those of its kind that applies.
func (w *wanted) check(a api.Act) api.Errno {
	type reason struct {
		is bool
		e  api.Errno
	}
	stamper := func(n int64) bool { return 1 <= n && n <= 1<<30 }
	old := func(l ...int64) bool { return w.used[l[0]] >= w.m.Life || w.used[l[1]] >= w.m.Life }
	reasons, known := map[int][]reason{
		api.ActMount: {{!stamper(a.A) || !stamper(a.B), api.ErrRange}, {a.A == a.B, api.ErrEqual}, {w.s.Closed, api.ErrHot}, {w.s.Loaded, api.ErrState}, {old(a.A, a.B), api.ErrOld}},
		api.ActLoad:  {{w.s.Closed, api.ErrHot}, {w.s.Loaded || w.s.A == 0, api.ErrState}, {old(w.s.A, w.s.B), api.ErrOld}, {len(w.discs) >= 1000, api.ErrFull}},
		api.ActClose: {{w.s.Closed || !w.s.Loaded, api.ErrState}},
		api.ActValve: {{a.A < 0 || a.A > 2, api.ErrRange}, {a.A == 1 && !w.s.Closed, api.ErrHot}},
		api.ActWait:  {{a.A < 1 || a.A > 1000, api.ErrRange}, {w.s.Time+a.A > 1<<30, api.ErrLimit}},
		api.ActOpen:  {{!w.s.Closed, api.ErrState}, {w.s.Valve == 1 || w.s.Temp > w.m.Cool, api.ErrHot}},
	}[a.Kind]
	if !known {
		return api.ErrArg
	}
	for _, r := range reasons {
		if r.is {
			return r.e
		}
	}
	return api.OK
}

func (w *wanted) do(a api.Act) (api.Disc, api.Errno) {
	if e := w.check(a); e != api.OK {
		return api.Disc{}, e
	}
	switch a.Kind {
	case api.ActMount:
		w.s.A, w.s.B = a.A, a.B
	case api.ActLoad:
		w.s.Loaded = true
	case api.ActClose:
		w.s.Closed, w.s.Held, w.s.Peak = true, 0, w.s.Temp
	case api.ActValve:
		w.s.Valve = int(a.A)
	case api.ActWait:
		for range a.A {
			w.tick()
		}
	case api.ActOpen:
		return w.open(), api.OK
	}
	return api.Disc{}, api.OK
}

func (w *wanted) tick() {
	w.s.Temp = wantedTick(w.m, w.s.Temp, w.s.Valve)
	w.s.Time++
	if !w.s.Closed {
		return
	}
	if w.s.Temp >= w.m.Melt {
		w.s.Held++
	}
	if w.s.Temp > w.s.Peak {
		w.s.Peak = w.s.Temp
	}
}

func (w *wanted) open() api.Disc {
	d := api.Disc{Serial: int64(len(w.discs) + 1), A: w.s.A, B: w.s.B, Time: w.s.Time, Held: w.s.Held, Peak: w.s.Peak, Good: w.s.Held >= w.m.Hold}
	w.discs = append(w.discs, d)
	w.used[d.A]++
	w.used[d.B]++
	w.s.Closed, w.s.Loaded = false, false
	return d
}

// of returns the serial numbers of the discs of a stamper.
func (w *wanted) of(stamper int64) []int64 {
	var l []int64
	for i, d := range w.discs {
		if stamper == d.A || stamper == d.B {
			l = append(l, int64(i+1))
		}
	}
	return l
}

// upTo returns a number from least to most, often one of both.
func upTo(r *rand.Rand, least, most int64) int64 {
	switch r.Intn(5) {
	case 0:
		return least
	case 1:
		return most
	}
	return least + r.Int63n(most-least+1)
}

// someMachine returns a machine whose temperatures are at most top, and which changes them by at least slow degrees.
func someMachine(r *rand.Rand, top, slow, hold int64) api.Machine {
	m := api.Machine{Top: upTo(r, 1, top), Hold: upTo(r, 1, hold), Life: upTo(r, 1, 3)}
	m.Melt = upTo(r, 1, m.Top)
	m.Cool = upTo(r, 0, m.Melt-1)
	m.Room = upTo(r, 0, m.Cool)
	m.Heat, m.Chill, m.Drift = slow+r.Int63n(top-slow+1), slow+r.Int63n(top-slow+1), r.Int63n(top/2+1)
	return m
}

// someAct returns an act of any kind that is often possible for a press.
func someAct(r *rand.Rand, w *wanted) api.Act {
	for range 1 + r.Intn(6) {
		a := anyAct(r)
		if w.check(a) == api.OK {
			return a
		}
	}
	return anyAct(r)
}

func anyAct(r *rand.Rand) api.Act {
	a := api.Act{Kind: 1 + r.Intn(6), A: r.Int63n(9) - 1, B: r.Int63n(9) - 1}
	switch {
	case a.Kind == api.ActMount:
		a.A, a.B = r.Int63n(8), r.Int63n(8)
	case a.Kind == api.ActWait && r.Intn(9) == 0:
		a.A = upTo(r, 0, 1001)
	case a.Kind == api.ActValve:
		a.A = r.Int63n(4)
	}
	if r.Intn(40) == 0 {
		a.A = []int64{math.MinInt64, math.MaxInt64, 1<<32 + 1, 1 << 32}[r.Intn(4)]
	}
	if r.Intn(60) == 0 {
		a.Kind = []int{math.MinInt, -1, 0, 7, math.MaxInt, 1<<32 + 1}[r.Intn(6)]
	}
	return a
}

// ran returns a press of a machine of few degrees after some acts, and what is wanted of it.
func ran(t *testing.T, r *rand.Rand, acts int) (*press.Press, *wanted) {
	t.Helper()
	w := newWanted(someMachine(r, 40, 3, 3))
	p := newPress(t, w.m)
	for range acts {
		a := someAct(r, w)
		w.do(a)
		p.Do(a)
	}
	return p, w
}

// beyond are numbers that are not from least to most.
func beyond(least, most int64) []int64 {
	return []int64{least - 1, most + 1, least - 1<<40, most + 1<<40, math.MinInt64, math.MinInt64 + 1, math.MaxInt64, math.MaxInt64 - 1}
}
