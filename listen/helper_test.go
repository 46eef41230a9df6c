package listen_test

import (
	"math"
	"math/rand"
	"slices"
	"testing"

	"deadwax/api"
	"deadwax/listen"
)

// plates are those of the chapter's examples.
func plates() []api.Plate {
	return []api.Plate{{Parent: -1}, {Kind: 1}, {Kind: 2, Parent: 1}, {Kind: 3, Parent: 2}, {Kind: 2, Parent: 1}, {Kind: 3, Parent: 4}, {Kind: 3, Parent: 2}}
}

// discs are those of the chapter's examples; on the side 1 they have the stampers 5 and 6 in turn.
func discs() []api.Disc {
	var l []api.Disc
	for i, stamper := range []int64{3, 3, 5, 6, 6, 5} {
		l = append(l, api.Disc{Serial: int64(10 + i), A: stamper + 1, B: int64(6 + i%2)})
	}
	return l
}

func yes(serial int64) api.Hearing { return api.Hearing{Serial: serial, Yes: true} }

func no(serial int64) api.Hearing { return api.Hearing{Serial: serial} }

// lot is plates, and the discs that were pressed with them, heard on a side.
type lot struct {
	p    []api.Plate
	d    []api.Disc
	side int
}

func example() lot { return lot{plates(), discs(), 0} }

func (l lot) stamper(d api.Disc) int {
	if l.side == 1 {
		return int(d.B - 1)
	}
	return int(d.A - 1)
}

// line follows the definition of layer 7.
func (l lot) line(plate int) []int {
	if l.p[plate].Kind == api.PlateLacquer {
		return []int{plate}
	}
	return append(l.line(l.p[plate].Parent), plate)
}

// wantedHas follows the chapter's definition of a cause, and of what has it.
func (l lot) wantedHas(c api.Cause) (list []int64, is bool) {
	switch {
	case c.Plate == -1:
		for _, d := range l.d {
			if d.Serial == c.From {
				list, is = []int64{d.Serial}, true
			}
		}
	case c.Plate < 0 || c.Plate >= len(l.p):
	case l.p[c.Plate].Kind == api.PlateStamper:
		for _, d := range l.d {
			if l.stamper(d) == c.Plate && d.Serial >= c.From {
				list = append(list, d.Serial)
				is = is || d.Serial == c.From
			}
		}
	case c.From >= 0 && c.From < int64(len(l.p)) && l.p[c.From].Kind > 0 && l.p[c.From].Parent == c.Plate:
		is = true
		for _, d := range l.d {
			line := l.line(l.stamper(d))
			if i := slices.Index(line, c.Plate); i >= 0 && int64(line[i+1]) >= c.From {
				list = append(list, d.Serial)
			}
		}
	}
	if !is {
		return nil, false
	}
	return list, true
}

// found is a cause, and the discs that have it.
type found struct {
	cause api.Cause
	discs []int64
}

// wanted tries all that can be a cause.
func (l lot) wanted(hearings ...api.Hearing) []found {
	var causes []found
	for i := range len(l.p) + 1 {
		plate := i
		if i == len(l.p) {
			plate = -1
		}
		for _, from := range l.numbers() {
			c := api.Cause{Plate: plate, From: from}
			if has, is := l.wantedHas(c); is && explains(has, hearings) {
				causes = append(causes, found{c, has})
			}
		}
	}
	return causes
}

// numbers are those of all plates and discs, in increasing order, each once.
func (l lot) numbers() []int64 {
	n := l.serials()
	for i := range l.p {
		n = append(n, int64(i))
	}
	slices.Sort(n)
	return slices.Compact(n)
}

func (l lot) serials() []int64 {
	var n []int64
	for _, d := range l.d {
		n = append(n, d.Serial)
	}
	return n
}

func explains(has []int64, hearings []api.Hearing) bool {
	for _, h := range hearings {
		if slices.Contains(has, h.Serial) != h.Yes {
			return false
		}
	}
	return true
}

// truth is what is heard on discs if some have the defect.
func truth(has []int64, serials ...int64) []api.Hearing {
	var l []api.Hearing
	for _, s := range serials {
		l = append(l, api.Hearing{Serial: s, Yes: slices.Contains(has, s)})
	}
	return l
}

func (l lot) has(t *testing.T, c api.Cause) []int64 {
	t.Helper()
	has, e := listen.Has(l.p, l.d, l.side, c)
	if e != api.OK {
		t.Fatalf("Has of %v for %v: %d", c, l, e)
	}
	return has
}

func (l lot) causes(t *testing.T, hearings ...api.Hearing) []api.Cause {
	t.Helper()
	causes, e := listen.Causes(l.p, l.d, l.side, hearings)
	if e != api.OK {
		t.Fatalf("Causes for %v after %v: %d", l, hearings, e)
	}
	return causes
}

func (l lot) suspects(t *testing.T, hearings ...api.Hearing) []int {
	t.Helper()
	suspects, e := listen.Suspects(l.p, l.d, l.side, hearings)
	if e != api.OK {
		t.Fatalf("Suspects for %v after %v: %d", l, hearings, e)
	}
	return suspects
}

func (l lot) certain(t *testing.T, hearings ...api.Hearing) []int64 {
	t.Helper()
	certain, e := listen.Certain(l.p, l.d, l.side, hearings)
	if e != api.OK {
		t.Fatalf("Certain for %v after %v: %d", l, hearings, e)
	}
	return certain
}

func (l lot) possible(t *testing.T, hearings ...api.Hearing) []int64 {
	t.Helper()
	possible, e := listen.Possible(l.p, l.d, l.side, hearings)
	if e != api.OK {
		t.Fatalf("Possible for %v after %v: %d", l, hearings, e)
	}
	return possible
}

// somePlates returns plates of all kinds, of which some were grown on few others; what else is told of them is anything.
func somePlates(r *rand.Rand, n int) []api.Plate {
	var l []api.Plate
	of := [4][]int{}
	for i := range n {
		p := api.Plate{Parent: -1, Cut: r.Int63(), Area: r.Int63n(9) - 4, Thick: -r.Int63n(3), Grown: r.Intn(5) - 2, Retired: r.Intn(2) == 0}
		if kind := r.Intn(8) % 5; kind > 0 && kind < 4 && len(of[kind-1]) > 0 {
			p.Kind = kind
			p.Parent = of[kind-1][r.Intn(len(of[kind-1]))]
		}
		if len(of[3]) == 0 && i > 0 && l[i-1].Kind < 3 {
			p.Kind, p.Parent = l[i-1].Kind+1, i-1 // so that there is a stamper soon
		}
		of[p.Kind] = append(of[p.Kind], i)
		l = append(l, p)
	}
	return l
}

// someDiscs returns discs of any stampers; what else is told of them is anything.
func someDiscs(r *rand.Rand, p []api.Plate, n int) []api.Disc {
	var stampers []int64
	for i := range p {
		if p[i].Kind == api.PlateStamper {
			stampers = append(stampers, int64(i+1))
		}
	}
	var l []api.Disc
	serial := r.Int63n(4)
	for range n {
		d := api.Disc{Serial: serial, Time: -r.Int63n(9), Held: r.Int63n(9), Peak: r.Int63n(9), Good: r.Intn(2) == 0}
		d.A, d.B = stampers[r.Intn(len(stampers))], stampers[r.Intn(len(stampers))]
		l = append(l, d)
		serial += 1 + r.Int63n(3)
	}
	return l
}

// someLot returns a lot with at least four plates.
func someLot(r *rand.Rand, plates, discs int) lot {
	p := somePlates(r, 4+r.Intn(plates-3))
	return lot{p, someDiscs(r, p, r.Intn(discs+1)), r.Intn(2)}
}

// someHearings returns hearings that are true for a cause, or any ones.
func someHearings(r *rand.Rand, l lot, most int) []api.Hearing {
	all, serials := l.wanted(), l.serials()
	if len(serials) == 0 {
		return nil
	}
	var heard []int64
	for range r.Intn(most + 1) {
		heard = append(heard, serials[r.Intn(len(serials))])
	}
	h := truth(all[r.Intn(len(all))].discs, heard...)
	if len(h) > 0 && r.Intn(5) == 0 {
		i := r.Intn(len(h))
		h[i].Yes = !h[i].Yes
	}
	return h
}

// beyond are numbers that are not from least to most.
func beyond(least, most int) []int {
	return []int{least - 1, most + 1, least - 1<<40, most + 1<<40, least - 1<<32, least + 1<<32, math.MinInt64, math.MinInt64 + 1, math.MaxInt64, math.MaxInt64 - 1}
}
