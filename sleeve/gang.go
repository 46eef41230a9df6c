package sleeve

import (
	"math"
	"math/bits"
	"slices"
	"sort"

	"deadwax/api"
)

func haveRoom(copies []int64, slots int64) bool { return int64(len(copies)) <= slots }

// places returns how many places each design needs for so many sheets.
func places(copies []int64, sheets int64) []int64 {
	var l []int64
	for _, n := range copies {
		l = append(l, (n+sheets-1)/sheets)
	}
	return l
}

func enough(copies []int64, slots, sheets int64) bool {
	for _, n := range places(copies, sheets) {
		slots -= n
	}
	return slots >= 0
}

// sheets returns the sheets of the run of designs that have room: as many as there are copies are enough, and with more sheets no design needs more places.
func sheets(copies []int64, slots int64) int64 {
	if len(copies) == 0 {
		return 0
	}
	fewer := slices.Max(copies) - 1
	return 1 + int64(sort.Search(int(fewer), func(n int) bool { return enough(copies, slots, 1+int64(n)) }))
}

// onPlates returns the copies of the designs of each plate.
func onPlates(copies []int64, gang []int) [][]int64 {
	var plates [][]int64
	for design, plate := range gang {
		if plate == len(plates) {
			plates = append(plates, nil)
		}
		plates[plate] = append(plates[plate], copies[design])
	}
	return plates
}

// set has a bit for each design.
type set uint

func (s set) with(design int) set { return s | 1<<design }

func (s set) size() int64 { return int64(bits.OnesCount(uint(s))) }

// of returns the copies of the designs in the set.
func (s set) of(copies []int64) []int64 {
	var l []int64
	for design, n := range copies {
		if s.with(design) == s {
			l = append(l, n)
		}
	}
	return l
}

// costs returns a function that tells the cost of a plate with a set of designs; without designs there is no plate.
func costs(copies []int64, slots, plate int64) func(set) int64 {
	known := map[set]int64{0: 0}
	return func(s set) int64 {
		cost, is := known[s]
		if !is {
			cost = plate + sheets(s.of(copies), slots)
			known[s] = cost
		}
		return cost
	}
}

// bestGang tries all gangs in lexicographic order.
func bestGang(copies []int64, slots, plate int64) (best []int, least int64) {
	cost := costs(copies, slots, plate)
	least = math.MaxInt64
	gang := make([]int, len(copies))
	var plates [api.MaxDesigns]set
	var try func(design, next int, sum int64)
	try = func(design, next int, sum int64) {
		if design == len(copies) {
			if sum < least {
				best, least = slices.Clone(gang), sum
			}
			return
		}
		for p := range next + 1 {
			without, with := plates[p], plates[p].with(design)
			if with.size() > slots {
				continue
			}
			gang[design], plates[p] = p, with
			try(design+1, max(next, p+1), sum+cost(with)-cost(without))
			plates[p] = without
		}
	}
	try(0, 0, 0)
	return best, least
}
