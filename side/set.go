package side

import (
	"iter"
	"math/bits"
)

// set is a set of tracks: the bit i is the track with the index i.
type set uint32

// firstTracks returns the set of the first n tracks.
func firstTracks(n int) set { return 1<<n - 1 }

func setOf(tracks []int) set {
	var s set
	for _, i := range tracks {
		s = s.with(i)
	}
	return s
}

func (s set) with(i int) set { return s | 1<<i }

func (s set) has(i int) bool { return s&(1<<i) != 0 }

// tracks yields the indexes of a set, from the least one on.
func (s set) tracks() iter.Seq[int] {
	return func(yield func(int) bool) {
		for rest := s; rest != 0; rest &= rest - 1 {
			if !yield(bits.TrailingZeros32(uint32(rest))) {
				return
			}
		}
	}
}

// list returns the indexes of a set as a strictly increasing list.
func (s set) list() []int {
	var l []int
	for i := range s.tracks() {
		l = append(l, i)
	}
	return l
}
