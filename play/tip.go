package play

import (
	"slices"
	"sort"

	"deadwax/api"
)

// elements returns how many elements a round tip has.
func elements(radius, arc int64) int64 { return radius/arc + 1 }

func round(radius, arc int64, up bool) api.Tip {
	n := elements(radius, arc)
	shape := make([]int64, 0, n)
	for k := range n {
		shape = append(shape, behind(radius, k*arc, up))
	}
	return api.Tip{Shape: shape}
}

// behind returns how far the flank of a round tip is behind its foremost point, so many units beside it. It compares squares, so as to be exact.
func behind(radius, beside int64, up bool) int64 {
	square := radius*radius - beside*beside
	rounded := int64(sort.Search(int(radius), func(x int) bool {
		root := radius - int64(x)
		return root*root <= square
	}))
	root := radius - rounded
	if up || root*root == square {
		return rounded
	}
	return rounded - 1
}

// stylus is a tip with the flanks of both its sides: the foremost point is at reach.
type stylus struct {
	flanks []int64
	reach  int
}

func stylusOf(t api.Tip) stylus {
	n := len(t.Shape)
	flanks := make([]int64, 2*n-1)
	copy(flanks, t.Shape)
	slices.Reverse(flanks[:n])
	copy(flanks[n-1:], t.Shape)
	return stylus{flanks: flanks, reach: n - 1}
}

// behind returns how far the flank is behind the foremost point, so many samples after it (below 0: before it).
func (s stylus) behind(after int) int64 { return s.flanks[s.reach+after] }

// missed returns the first sample because of which the stylus misses a sample of a groove, and whether there is one.
func (s stylus) missed(l line, t int) (int, bool) {
	for u := range around(t, s.reach, len(l)) {
		behind := s.behind(u - t)
		if l.outer(t) > l.outer(u)+behind || l.inner(t) > l.inner(u)+behind {
			return u, true
		}
	}
	return 0, false
}

// greatestRadius returns the greatest radius up to most whose round tip, rounded down, reads a groove exactly. As a round tip is blunter the greater its radius is, half of the radii that are left are tried at once; the radius 0, whose tip is ideal, need not be tried.
func greatestRadius(l line, arc, most int64) int64 {
	low, high := int64(0), most
halving:
	for low < high {
		middle := high - (high-low)/2
		s := stylusOf(round(middle, arc, false))
		for t := range l {
			if _, missed := s.missed(l, t); missed {
				high = middle - 1
				continue halving
			}
		}
		low = middle
	}
	return low
}
