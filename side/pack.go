package side

import (
	"cmp"
	"slices"

	"deadwax/api"
)

// Pack returns the best packing. (P4.6)
func Pack(f api.Format, l []api.Track) ([]int, int, api.Errno) {
	if e := cmp.Or(CheckFormat(f), CheckTracks(l), checkAlone(l)); e != api.OK {
		return nil, 0, e
	}
	packing, sides := room{f, l}.pack()
	if sides > len(l) {
		return nil, 0, api.ErrPlan
	}
	return packing, sides, api.OK
}

// pack returns the best packing and how many sides it has: more than there are tracks, if none is possible.
func (r room) pack() ([]int, int) {
	fits := r.fitting()
	many := len(r.tracks)
	var best []int
	fewest := many + 1
	packing, sides := make([]int, many), make([]set, many)
	// search tries the packings in lexicographic order: of several with as few sides the first one is kept.
	var search func(track, used int)
	search = func(track, used int) {
		if track == many {
			best, fewest = slices.Clone(packing), used
			return
		}
	choice:
		for i := range used + 1 {
			before, needed := sides[i], max(used, i+1)
			switch after := before.with(track); {
			case needed >= fewest:
				break choice // as many are needed with each of the next sides
			case fits[after]:
				packing[track], sides[i] = i, after
				search(track+1, needed)
				sides[i] = before
			}
		}
	}
	search(0, 0)
	return best, fewest
}

// fitting reports of each set of the tracks whether it has a possible order.
func (r room) fitting() []bool {
	fits := make([]bool, 1<<len(r.tracks))
	for s := range fits {
		fits[s] = r.possible(r.usual(set(s)))
	}
	return fits
}

// Fewest returns the least number of sides by width. (P4.6)
func Fewest(f api.Format, l []api.Track) (int, api.Errno) {
	if e := cmp.Or(CheckFormat(f), CheckTracks(l), checkAlone(l)); e != api.OK {
		return 0, e
	}
	space := f.Outer - f.Inner - f.Lead - f.Tail
	if space < 1 {
		return 0, api.ErrLimit
	}
	sum := int64(0)
	for i := range l {
		sum += room{f, l}.width(i) + f.Gap
	}
	return int(quotientUp(sum, space+f.Gap)), api.OK
}
