package press_test

import (
	"math"
	"math/rand"
	"testing"

	"deadwax/api"
	"deadwax/press"
)

// fields are the numbers of a machine.
func fields(m *api.Machine) []*int64 {
	return []*int64{&m.Room, &m.Melt, &m.Cool, &m.Top, &m.Heat, &m.Chill, &m.Drift, &m.Hold, &m.Life}
}

// edges are machines with numbers that are just valid.
func edges() []api.Machine {
	return []api.Machine{
		machine(),
		{Room: 0, Cool: 0, Melt: 1, Top: 1, Heat: 1, Chill: 1, Drift: 0, Hold: 1, Life: 1},
		{Room: 399, Cool: 399, Melt: 400, Top: 400, Heat: 400, Chill: 400, Drift: 400, Hold: 64, Life: 1 << 16},
		{Room: 0, Cool: 200, Melt: 201, Top: 400, Heat: 1, Chill: 400, Drift: 0, Hold: 64, Life: 1},
	}
}

// invalidMachines are machines that are not valid as one of their numbers is not right.
func invalidMachines() []api.Machine {
	var l []api.Machine
	for _, m := range edges() {
		for i := range fields(&m) {
			for _, x := range []int64{math.MinInt64, -1 << 32, -401, -1, 0, 1, 65, 399, 400, 401, 1<<16 + 1, 1 << 32, 1<<32 + 100, math.MaxInt64} {
				wrong := m
				*fields(&wrong)[i] = x
				if !wantedValid(wrong) {
					l = append(l, wrong)
				}
			}
		}
	}
	return append(l, api.Machine{})
}

// P8.1: machines that are valid, or not. P8.2: New returns the error of Check.
func TestCheck(t *testing.T) {
	for _, m := range edges() {
		if e := press.Check(m); e != api.OK {
			t.Errorf("%v: %d", m, e)
		}
		if p, e := press.New(m); p == nil || e != api.OK {
			t.Errorf("New of %v: %d", m, e)
		}
		for i := range fields(&m) {
			for step := int64(-2); step <= 2; step++ {
				near := m
				*fields(&near)[i] += step
				if e := press.Check(near); (e == api.OK) != wantedValid(near) {
					t.Errorf("%v: %d", near, e)
				}
			}
		}
	}
	for _, m := range invalidMachines() {
		if e := press.Check(m); e != api.ErrArg {
			t.Errorf("%v: %d", m, e)
		}
		if p, e := press.New(m); p != nil || e != api.ErrArg {
			t.Errorf("New of %v: %v, %d", m, p, e)
		}
	}
}

// P8.1, P8.4: the error of Check comes before all others.
func TestCheckComesFirst(t *testing.T) {
	for _, m := range invalidMachines() {
		for _, temp := range []int64{m.Room, m.Top, math.MinInt64, math.MaxInt64} {
			for _, valve := range []int{0, 1, 2, 3, -1} {
				if x, e := press.Tick(m, temp, valve); x != 0 || e != api.ErrArg {
					t.Errorf("Tick of %v at %d with %d: %d, %d", m, temp, valve, x, e)
				}
			}
			if way, e := press.Fastest(m, temp); len(way) != 0 || e != api.ErrArg {
				t.Errorf("Fastest of %v at %d: %v, %d", m, temp, way, e)
			}
		}
	}
}

// P8.1: the chapter's examples.
func TestTickExamples(t *testing.T) {
	for _, x := range []struct {
		temp  int64
		valve int
		want  int64
	}{{190, api.ValveSteam, 200}, {30, api.ValveWater, 20}, {22, api.ValveShut, 20}} {
		if temp, e := press.Tick(machine(), x.temp, x.valve); temp != x.want || e != api.OK {
			t.Errorf("Tick at %d with %d: %d, %d", x.temp, x.valve, temp, e)
		}
	}
}

// P8.1: ticks from all temperatures, and from those that there cannot be.
func TestTick(t *testing.T) {
	r := rand.New(rand.NewSource(81))
	machines := edges()
	for range 200 {
		machines = append(machines, someMachine(r, 400, 1, 64))
	}
	for _, m := range machines {
		for temp := m.Room; temp <= m.Top; temp++ {
			for valve := range 3 {
				x, e := press.Tick(m, temp, valve)
				if want := wantedTick(m, temp, valve); x != want || e != api.OK || x < m.Room || x > m.Top {
					t.Fatalf("Tick of %v at %d with %d: %d, %d, not %d", m, temp, valve, x, e, want)
				}
			}
		}
		for _, temp := range beyond(m.Room, m.Top) {
			for _, valve := range []int{0, 1, 2, -1} {
				if x, e := press.Tick(m, temp, valve); x != 0 || e != api.ErrRange {
					t.Errorf("Tick of %v at %d with %d: %d, %d", m, temp, valve, x, e)
				}
			}
		}
		for _, valve := range beyond(0, 2) {
			if x, e := press.Tick(m, m.Top, int(valve)); x != 0 || e != api.ErrRange {
				t.Errorf("Tick of %v with %d: %d, %d", m, valve, x, e)
			}
		}
	}
}
