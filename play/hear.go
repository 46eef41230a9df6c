package play

import (
	"iter"
	"sort"

	"deadwax/api"
	"deadwax/groove"
)

// A circle is nearly circle / spoke times as long as its radius.
const (
	circle = 710
	spoke  = 113
)

// early returns by how many samples a groove is early or late at most, rounded up.
func early(off, r, per int64) int64 { return (off*spoke*per + circle*r - 1) / (circle * r) }

// extent returns the numbers from the least one of an edge to the greatest one of another edge.
func extent(near iter.Seq[int], low, high func(int) int64) api.Extent {
	return api.Extent{Lo: least(near, low), Hi: greatest(near, high)}
}

// mirrored returns an extent with all its numbers below 0 instead of above, and the other way round.
func mirrored(x api.Extent) api.Extent { return api.Extent{Lo: -x.Hi, Hi: -x.Lo} }

// heard returns what can be heard near a sample of what is read at least, and at most.
func heard(near iter.Seq[int], narrow, wide walls) api.Heard {
	return api.Heard{
		In:  mirrored(extent(near, narrow.inner, wide.inner)),
		Out: extent(near, narrow.outer, wide.outer),
	}
}

// channels returns the channels whose edge lies in an extent, and whether there are any. The edge of a greater channel is nowhere farther in: so no channel between two of them is another one.
func channels(h api.Extent, edge func(int64) int64) (api.Extent, bool) {
	first := channel(func(x int64) bool { return edge(x) >= h.Lo })
	after := channel(func(x int64) bool { return edge(x) > h.Hi })
	return api.Extent{Lo: first, Hi: after - 1}, first < after
}

// channel returns the least channel that holds, if so does each one after it; the number after the last channel if none holds.
func channel(holds func(int64) bool) int64 {
	i := sort.Search(2*api.MaxSample+1, func(i int) bool { return holds(int64(i) - api.MaxSample) })
	return int64(i) - api.MaxSample
}

// wall returns the point of a sample. It has no error: the cutter and the sample are valid.
func wall(c api.Cutter, s api.Sample) api.Point {
	p, _ := groove.Wall(c, s)
	return p
}
