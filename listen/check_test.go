package listen_test

import (
	"math"
	"math/rand"
	"slices"
	"testing"

	"deadwax/api"
	"deadwax/listen"
)

// result is what a function returns beside its error, and whether it is all zero.
type result struct {
	zero bool
	e    api.Errno
}

// heard are the functions with hearings.
func heard() map[string]func(lot, []api.Hearing) result {
	return map[string]func(lot, []api.Hearing) result{
		"Causes": func(l lot, h []api.Hearing) result {
			x, e := listen.Causes(l.p, l.d, l.side, h)
			return result{len(x) == 0, e}
		},
		"Suspects": func(l lot, h []api.Hearing) result {
			x, e := listen.Suspects(l.p, l.d, l.side, h)
			return result{len(x) == 0, e}
		},
		"Certain": func(l lot, h []api.Hearing) result {
			x, e := listen.Certain(l.p, l.d, l.side, h)
			return result{len(x) == 0, e}
		},
		"Possible": func(l lot, h []api.Hearing) result {
			x, e := listen.Possible(l.p, l.d, l.side, h)
			return result{len(x) == 0, e}
		},
		"Next": func(l lot, h []api.Hearing) result {
			serial, rest, e := listen.Next(l.p, l.d, l.side, h)
			return result{serial == 0 && rest == 0, e}
		},
	}
}

// all checks that all functions of a lot return an error, whatever their other arguments are.
func all(t *testing.T, name string, l lot, e api.Errno) {
	t.Helper()
	for _, c := range []api.Cause{{Plate: 0, From: 1}, {Plate: -1, From: 10}, {Plate: -2}, {Plate: 900, From: -1}} {
		if x, got := listen.Has(l.p, l.d, l.side, c); len(x) != 0 || got != e {
			t.Errorf("%s: Has of %v: %v, %d, not %d", name, c, x, got, e)
		}
	}
	for function, f := range heard() {
		for _, h := range [][]api.Hearing{nil, {yes(10)}, {no(-1)}, slices.Repeat([]api.Hearing{yes(10)}, api.MaxHeard+1)} {
			if got := f(l, h); got != (result{true, e}) {
				t.Errorf("%s: %s after %d hearings: %v, not %d", name, function, len(h), got, e)
			}
		}
	}
}

// wrongPlates checks plates that have an error: that of plates comes before those of discs and sides.
func wrongPlates(t *testing.T, name string, p []api.Plate, e api.Errno) {
	t.Helper()
	if got := listen.CheckPlates(p); got != e {
		t.Errorf("%s: CheckPlates: %d, not %d", name, got, e)
	}
	for _, d := range [][]api.Disc{nil, discs(), {{Serial: -1}}, make([]api.Disc, api.MaxHeard+1)} {
		if got := listen.CheckDiscs(p, d); got != e {
			t.Errorf("%s: CheckDiscs: %d, not %d", name, got, e)
		}
		for _, side := range []int{0, 1, 2} {
			all(t, name, lot{p, d, side}, e)
		}
	}
}

// wrongDiscs checks discs that have an error: it comes before that of the side.
func wrongDiscs(t *testing.T, name string, p []api.Plate, d []api.Disc, e api.Errno) {
	t.Helper()
	if got := listen.CheckDiscs(p, d); got != e {
		t.Errorf("%s: CheckDiscs: %d, not %d", name, got, e)
	}
	for _, side := range []int{0, 1, -1} {
		all(t, name, lot{p, d, side}, e)
	}
}

// P9.4: plates with any parents of the kind before.
func TestValidPlates(t *testing.T) {
	r := rand.New(rand.NewSource(94))
	for range 300 {
		if p := somePlates(r, r.Intn(40)); listen.CheckPlates(p) != api.OK {
			t.Errorf("CheckPlates of %v: %d", p, listen.CheckPlates(p))
		}
	}
	lacquer := api.Plate{Parent: -1}
	for _, p := range [][]api.Plate{
		nil, {}, {lacquer}, plates(),
		slices.Repeat([]api.Plate{lacquer}, api.MaxPlates),
		append(slices.Repeat([]api.Plate{lacquer}, api.MaxPlates-1), api.Plate{Kind: 1, Parent: api.MaxPlates - 2}),
		{lacquer, {Kind: 1}, {Kind: 1}}, // how many were grown on a plate does not matter
		{{Parent: -1, Cut: math.MinInt64, Area: -1, Thick: math.MaxInt64, Grown: -5, Retired: true}},
	} {
		if e := listen.CheckPlates(p); e != api.OK {
			t.Errorf("CheckPlates of %v: %d", p, e)
		}
		if e := listen.CheckDiscs(p, nil); e != api.OK {
			t.Errorf("CheckDiscs of nothing of %v: %d", p, e)
		}
	}
}

// P9.4
func TestInvalidPlates(t *testing.T) {
	for i, p := range plates() {
		change := func(name string, x api.Plate) {
			t.Helper()
			l := plates()
			l[i] = x
			wrongPlates(t, name, l, api.ErrArg)
		}
		for _, kind := range append(beyond(0, 3), 0, 1, 2, 3) {
			if kind != p.Kind {
				change("another kind", api.Plate{Kind: kind, Parent: p.Parent})
			}
		}
		for parent, of := range plates() {
			if p.Kind == 0 || of.Kind != p.Kind-1 || parent >= i {
				change("another parent", api.Plate{Kind: p.Kind, Parent: parent})
			}
		}
		for _, parent := range append(beyond(-1, len(plates())-1), len(plates())) {
			change("no parent", api.Plate{Kind: p.Kind, Parent: parent})
		}
		if p.Kind > 0 {
			change("a parent of none", api.Plate{Kind: p.Kind, Parent: -1})
		}
	}
	later := []api.Plate{{Parent: -1}, {Kind: 1, Parent: 2}, {Parent: -1}} // the lacquer comes after its father
	wrongPlates(t, "a later parent", later, api.ErrArg)
	wrongPlates(t, "only a stamper", []api.Plate{{Kind: 3, Parent: 0}}, api.ErrArg)
	wrongPlates(t, "only a father", []api.Plate{{Kind: 1, Parent: -1}}, api.ErrArg)
	lacquers := slices.Repeat([]api.Plate{{Parent: -1}}, api.MaxPlates+1)
	wrongPlates(t, "too many plates", lacquers, api.ErrMany)
	lacquers[7].Kind = 9
	wrongPlates(t, "too many plates, of which one is wrong", lacquers, api.ErrMany)
	wrongPlates(t, "one of as many as there may be is wrong", lacquers[:api.MaxPlates], api.ErrArg)
}

// P9.4: discs of any stampers.
func TestValidDiscs(t *testing.T) {
	r := rand.New(rand.NewSource(941))
	for range 300 {
		l := someLot(r, 40, 30)
		if e := listen.CheckDiscs(l.p, l.d); e != api.OK {
			t.Errorf("CheckDiscs of %v: %d", l, e)
		}
	}
	for _, d := range [][]api.Disc{
		nil, {}, discs(),
		{{Serial: 0, A: 4, B: 4}},
		{{Serial: math.MaxInt64, A: 4, B: 7}},
		{{Serial: 0, A: 6, B: 7}, {Serial: math.MaxInt64, A: 7, B: 4}},
		{{Serial: 1, A: 4, B: 6, Time: -1, Held: math.MinInt64, Peak: math.MaxInt64, Good: true}},
		someDiscs(r, plates(), api.MaxHeard),
	} {
		if e := listen.CheckDiscs(plates(), d); e != api.OK {
			t.Errorf("CheckDiscs of %v: %d", d, e)
		}
	}
}

// P9.4
func TestInvalidDiscs(t *testing.T) {
	for i := range discs() {
		change := func(name string, change func(*api.Disc)) {
			t.Helper()
			l := discs()
			change(&l[i])
			wrongDiscs(t, name, plates(), l, api.ErrArg)
		}
		for _, n := range []int64{0, -1, 1, 2, 3, 5, 8, 9, 1<<32 + 4, -1<<32 + 4, math.MinInt64, math.MinInt64 + 4, math.MaxInt64, 1<<62 + 4} {
			change("A is no stamper", func(d *api.Disc) { d.A = n })
			change("B is no stamper", func(d *api.Disc) { d.B = n })
		}
		if i > 0 {
			change("the same number", func(d *api.Disc) { d.Serial = int64(9 + i) })
			change("a lesser number", func(d *api.Disc) { d.Serial = int64(8 + i) })
		}
	}
	for _, serial := range []int64{-1, math.MinInt64} {
		wrongDiscs(t, "a number below 0", plates(), []api.Disc{{Serial: serial, A: 4, B: 4}, {Serial: 1, A: 4, B: 4}}, api.ErrArg)
	}
	wrongDiscs(t, "a number again", plates(), []api.Disc{{Serial: 0, A: 4, B: 4}, {Serial: 0, A: 4, B: 4}}, api.ErrArg)
	wrongDiscs(t, "a disc without plates", nil, discs()[:1], api.ErrArg)
	wrongDiscs(t, "a disc without stampers", plates()[:3], discs()[:1], api.ErrArg)
	many := someDiscs(rand.New(rand.NewSource(942)), plates(), api.MaxHeard+1)
	wrongDiscs(t, "too many discs", plates(), many, api.ErrMany)
	many[7].A = 0
	wrongDiscs(t, "too many discs, of which one is wrong", plates(), many, api.ErrMany)
	wrongDiscs(t, "one of as many as there may be is wrong", plates(), many[:api.MaxHeard], api.ErrArg)
	wrongDiscs(t, "too many discs without plates", nil, many, api.ErrMany)
}

// The error of the side comes before those of causes and hearings.
func TestSides(t *testing.T) {
	for _, side := range beyond(0, 1) {
		all(t, "no side", lot{plates(), discs(), side}, api.ErrRange)
		all(t, "no side of nothing", lot{nil, nil, side}, api.ErrRange)
	}
}

// The errors of hearings, and their order.
func TestHearings(t *testing.T) {
	many := slices.Repeat([]api.Hearing{yes(10)}, api.MaxHeard+1)
	unknown := slices.Clone(many)
	unknown[3].Serial = 9
	after := append([]api.Hearing{yes(10), yes(12)}, no(16))
	contrary := []api.Hearing{yes(10), no(10), no(99)}
	for name, f := range heard() {
		for _, x := range []struct {
			h []api.Hearing
			e api.Errno
		}{
			{many, api.ErrMany}, {unknown, api.ErrMany}, {unknown[:api.MaxHeard], api.ErrNone}, {after, api.ErrNone}, {contrary, api.ErrNone},
			{[]api.Hearing{yes(9)}, api.ErrNone}, {[]api.Hearing{no(16)}, api.ErrNone}, {[]api.Hearing{no(0)}, api.ErrNone}, {[]api.Hearing{no(-1)}, api.ErrNone},
			{[]api.Hearing{yes(math.MinInt64)}, api.ErrNone}, {[]api.Hearing{yes(math.MaxInt64)}, api.ErrNone}, {[]api.Hearing{yes(1<<32 + 10)}, api.ErrNone},
		} {
			if got := f(example(), x.h); got != (result{true, x.e}) {
				t.Errorf("%s after %v: %v, not %d", name, x.h, got, x.e)
			}
		}
		if got := f(lot{plates(), nil, 0}, []api.Hearing{no(10)}); got != (result{true, api.ErrNone}) {
			t.Errorf("%s without discs: %v", name, got)
		}
		gap := lot{plates(), []api.Disc{{Serial: 1, A: 4, B: 4}, {Serial: 3, A: 4, B: 4}}, 0}
		if got := f(gap, []api.Hearing{no(2)}); got != (result{true, api.ErrNone}) {
			t.Errorf("%s after a disc in a gap: %v", name, got)
		}
		if got := f(example(), many[:api.MaxHeard]); got.zero != (name == "Next" && got.e == api.ErrPlan) {
			t.Errorf("%s after as many hearings as there may be: %v", name, got)
		}
	}
}
