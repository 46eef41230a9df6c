package side

import (
	"cmp"
	"iter"
	"math"
	"slices"

	"deadwax/api"
)

// unplanned is the price of tracks that cannot be planned.
const unplanned = -1

// album is tracks in their order, and the formats of the sides on which they can be.
type album struct {
	formats []api.Format
	tracks  []api.Track
}

// stretch is the tracks from from to to - 1, on the format with an index.
type stretch struct {
	format, from, to int
}

func (a album) possible(s stretch) bool {
	tracks := a.tracks[s.from:s.to]
	return room{a.formats[s.format], tracks}.possible(firstTracks(len(tracks)).list())
}

func (a album) cost(s stretch) int64 { return a.formats[s.format].Cost }

// faces yields all possible faces, those that end at an earlier track first.
func (a album) faces() iter.Seq[stretch] {
	return func(yield func(stretch) bool) {
		for to := range len(a.tracks) + 1 {
			for from := range to {
				for i := range a.formats {
					s := stretch{i, from, to}
					if a.possible(s) && !yield(s) {
						return
					}
				}
			}
		}
	}
}

// plan is a plan as numbers, so that of two plans for the same tracks the better one is the first in lexicographic order: the cost, how many faces there are, and the Format and the Many of each of them. What is left is 0.
type plan [2 + 2*api.MaxTracks]int64

// noPlan comes after all plans.
func noPlan() plan { return plan{math.MaxInt64} }

// with returns a plan with one face more.
func (p plan) with(s stretch, cost int64) plan {
	end := 2 + 2*p[1]
	p[0] += cost
	p[1]++
	p[end], p[end+1] = int64(s.format), int64(s.to-s.from)
	return p
}

func (p plan) list() []api.Face {
	l := make([]api.Face, 0, p[1])
	for x := range slices.Chunk(p[2:2+2*p[1]], 2) {
		l = append(l, api.Face{Format: int(x[0]), Many: int(x[1])})
	}
	return l
}

func (p plan) price() int64 {
	if p == noPlan() {
		return unplanned
	}
	return p[0]
}

// best returns the best plans for the first tracks, as many as the index says.
func (a album) best() [api.MaxTracks + 1]plan {
	var best [api.MaxTracks + 1]plan
	for i := 1; i < len(best); i++ {
		best[i] = noPlan()
	}
	// No face that is still to come ends where this one begins, or earlier: the best plan until there is known.
	for s := range a.faces() {
		if best[s.from] == noPlan() {
			continue
		}
		p := best[s.from].with(s, a.cost(s))
		if slices.Compare(p[:], best[s.to][:]) < 0 {
			best[s.to] = p
		}
	}
	return best
}

// Album returns the best plan for an album. (P4.4)
func Album(formats []api.Format, l []api.Track) ([]api.Face, int64, api.Errno) {
	if e := cmp.Or(checkFormats(formats), CheckTracks(l)); e != api.OK {
		return nil, 0, e
	}
	best := album{formats, l}.best()
	p := best[len(l)]
	if p == noPlan() {
		return nil, 0, api.ErrPlan
	}
	return p.list(), p.price(), api.OK
}

// Cost returns the cost of a plan. (P4.4)
func Cost(formats []api.Format, l []api.Track, plan []api.Face) (int64, api.Errno) {
	if e := cmp.Or(checkFormats(formats), CheckTracks(l), checkPlan(plan, len(formats), len(l))); e != api.OK {
		return 0, e
	}
	a := album{formats, l}
	from, cost := 0, int64(0)
	for _, x := range plan {
		s := stretch{x.Format, from, from + x.Many}
		if !a.possible(s) {
			return 0, api.ErrPlan
		}
		from = s.to
		cost += a.cost(s)
	}
	return cost, api.OK
}

// Prices returns the best prices. (P4.5)
func Prices(formats []api.Format, l []api.Track) ([]int64, api.Errno) {
	if e := cmp.Or(checkFormats(formats), CheckTracks(l)); e != api.OK {
		return nil, e
	}
	best := album{formats, l}.best()
	prices := make([]int64, 0, len(l)+1)
	for _, p := range best[:len(l)+1] {
		prices = append(prices, p.price())
	}
	return prices, api.OK
}

// CheckPrices reports whether prices are right. (P4.5)
func CheckPrices(formats []api.Format, l []api.Track, prices []int64) (int, api.Errno) {
	if e := cmp.Or(checkFormats(formats), CheckTracks(l), checkPrices(prices, len(l))); e != api.OK {
		return 0, e
	}
	a := album{formats, l}
	for s := range a.faces() {
		before, after := prices[s.from], prices[s.to]
		if before != unplanned && (after == unplanned || after > before+a.cost(s)) {
			return s.to, api.ErrSum
		}
	}
	return 0, api.OK
}
