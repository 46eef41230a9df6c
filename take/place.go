package take

import (
	"iter"

	"deadwax/api"
)

// placed is a part with its place in a programme: its index, and the time when it begins.
type placed struct {
	api.Part
	index int
	start int
}

func (p placed) length() int { return p.To - p.From }

func (p placed) end() int { return p.start + p.length() }

// place expects valid parts, whose times cannot overflow.
func place(p []api.Part) []placed {
	q := make([]placed, 0, len(p))
	end := 0
	for i, x := range p {
		y := placed{Part: x, index: i, start: end + x.Gap}
		end = y.end()
		q = append(q, y)
	}
	return q
}

// possible looks at the end of the last part only, because no part ends before an earlier one.
func possible(q []placed) bool {
	for i, p := range q {
		if p.start < 0 || p.Gap < -p.length() {
			return false
		}
		if i >= 1 && p.Gap < -q[i-1].length() {
			return false
		}
		if i >= 2 && p.start < q[i-2].end() {
			return false
		}
	}
	return length(q) <= api.MaxLong
}

// length returns the end of the last part.
func length(q []placed) int {
	if len(q) == 0 {
		return 0
	}
	return q[len(q)-1].end()
}

// sounding yields the parts that sound at a time, each with the number of its sample.
func sounding(q []placed, t int) iter.Seq2[placed, int] {
	return func(yield func(placed, int) bool) {
		for _, p := range q {
			if p.start <= t && t < p.end() && !yield(p, t-p.start) {
				return
			}
		}
	}
}

// Starts returns when each part begins, and the length. (P1.4)
func Starts(l []api.Take, p []api.Part) ([]int, int, api.Errno) {
	if e := CheckProgramme(l, p); e != api.OK {
		return nil, 0, e
	}
	q := place(p)
	starts := make([]int, 0, len(q))
	for _, x := range q {
		starts = append(starts, x.start)
	}
	return starts, length(q), api.OK
}

// Sources returns what sounds at a time. (P1.5)
func Sources(l []api.Take, p []api.Part, t int) ([]api.Source, api.Errno) {
	if e := CheckProgramme(l, p); e != api.OK {
		return nil, e
	}
	q := place(p)
	if t < 0 || t >= length(q) {
		return nil, api.ErrRange
	}
	var sources []api.Source
	for x, k := range sounding(q, t) {
		sources = append(sources, api.Source{Part: x.index, Take: x.Take, Index: x.From + k})
	}
	return sources, api.OK
}

// Split splits a programme. (P1.8)
func Split(l []api.Take, p []api.Part, t int) ([]api.Part, []api.Part, api.Errno) {
	if e := CheckProgramme(l, p); e != api.OK {
		return nil, nil, e
	}
	q := place(p)
	if t < 0 || t > length(q) {
		return nil, nil, api.ErrRange
	}
	// No part ends before an earlier one: those that end at t or before come first.
	many := 0
	for _, x := range q {
		if x.start < t && t < x.end() {
			return nil, nil, api.ErrState
		}
		if x.end() <= t {
			many++
		}
	}
	first := append([]api.Part(nil), p[:many]...)
	second := append([]api.Part(nil), p[many:]...)
	if len(second) > 0 {
		second[0].Gap = q[many].start - t
	}
	return first, second, api.OK
}
