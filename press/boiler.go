package press

import (
	"iter"

	"deadwax/api"
)

// house is some presses that share a boiler, and the phases of their cycles.
type house struct {
	presses, boiler int
	steam, rest     int64
}

// Starts returns the earliest starts. (P8.5)
func Starts(presses, boiler int, steam, rest int64, discs int) ([]int64, api.Errno) {
	h := house{presses, boiler, steam, rest}
	if e := checkHouse(h, discs); e != api.OK {
		return nil, e
	}
	starts := make([]int64, 0, discs)
	for range discs {
		starts = append(starts, int64(h.earliest(starts)))
	}
	return starts, api.OK
}

// CheckStarts reports whether starts are right. (P8.5)
func CheckStarts(presses, boiler int, steam, rest int64, starts []int64) (int, api.Errno) {
	h := house{presses, boiler, steam, rest}
	if e := checkHouse(h, len(starts)); e != api.OK {
		return 0, e
	}
	before := int64(0)
	for i, start := range starts {
		if start < before {
			return i, api.ErrRange
		}
		before = start
	}
	for i, start := range starts {
		if uint64(start) < h.earliest(starts[:i]) {
			return i, api.ErrRule
		}
	}
	return len(starts), api.OK
}

// earliest returns the earliest time for a disc after others, as far as there are not too many at once.
func (h house) earliest(starts []int64) uint64 {
	earliest := uint64(0)
	for end := range h.ends(starts) {
		earliest = max(earliest, end)
	}
	return earliest
}

// ends yields the times for which a disc has to wait after others: the end of the steam, or of the cycle, of the last one that leaves too few places if it still goes on. They have no sign, as they can be greater than any start.
func (h house) ends(starts []int64) iter.Seq[uint64] {
	return func(yield func(uint64) bool) {
		n := len(starts)
		if n >= h.boiler && !yield(uint64(starts[n-h.boiler])+uint64(h.steam)) {
			return
		}
		if n >= h.presses {
			yield(uint64(starts[n-h.presses]) + uint64(h.steam+h.rest))
		}
	}
}
