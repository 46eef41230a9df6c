package play

import (
	"iter"
	"math"

	"deadwax/api"
)

// walls are both edges of what is followed, each measured to its own side, so that one rule says what a tip does at either.
type walls interface {
	outer(i int) int64
	inner(i int) int64
}

// line is a groove.
type line []api.Point

func (l line) outer(i int) int64 { return l[i].Out }

func (l line) inner(i int) int64 { return -l[i].In }

// reading is what a stylus reads of a groove.
type reading struct {
	stylus
	groove line
}

func (r reading) outer(t int) int64 { return r.edge(r.groove.outer, t) }

func (r reading) inner(t int) int64 { return r.edge(r.groove.inner, t) }

// edge returns how far the stylus can go to the side of an edge until a flank touches it.
func (r reading) edge(wall func(int) int64, t int) int64 {
	return least(around(t, r.reach, len(r.groove)), func(u int) int64 { return wall(u) + r.behind(u-t) })
}

// sweep is what a stylus sweeps that reads a line.
type sweep struct {
	stylus
	read line
}

func (s sweep) outer(t int) int64 { return s.edge(s.read.outer, t) }

func (s sweep) inner(t int) int64 { return s.edge(s.read.inner, t) }

// edge returns how far a flank comes to the side of an edge at most.
func (s sweep) edge(wall func(int) int64, t int) int64 {
	return greatest(around(t, s.reach, len(s.read)), func(u int) int64 { return wall(u) - s.behind(u-t) })
}

// trace returns the first n points of walls.
func trace(w walls, n int) line {
	l := make(line, 0, n)
	for i := range n {
		l = append(l, api.Point{In: -w.inner(i), Out: w.outer(i)})
	}
	return l
}

// around yields the samples, of n, that are at most so far from a sample, from the first one on.
func around(t, far, n int) iter.Seq[int] {
	return func(yield func(int) bool) {
		for u := max(0, t-far); u < min(n, t+far+1); u++ {
			if !yield(u) {
				return
			}
		}
	}
}

// least returns the least number of elements, of which there is one at least.
func least[E any](l iter.Seq[E], number func(E) int64) int64 {
	low := int64(math.MaxInt64)
	for x := range l {
		low = min(low, number(x))
	}
	return low
}

// greatest returns the greatest number of elements, of which there is one at least.
func greatest[E any](l iter.Seq[E], number func(E) int64) int64 {
	return -least(l, func(x E) int64 { return -number(x) })
}
