package side

import (
	"cmp"
	"slices"

	"deadwax/api"
)

// room is a side of a format, and the tracks that are laid on it.
type room struct {
	format api.Format
	tracks []api.Track
}

// width returns the width of the track with an index.
func (r room) width(i int) int64 {
	t := r.tracks[i]
	return t.Pitch * quotientUp(t.Long, r.format.Per)
}

// quotientUp rounds up; a is not below 0.
func quotientUp(a, b int64) int64 { return (a + b - 1) / b }

// bands lays an order, whether it is possible or not.
func (r room) bands(order []int) []api.Band {
	bands := make([]api.Band, 0, len(order))
	from := r.format.Outer - r.format.Lead
	for _, i := range order {
		to := from - r.width(i)
		bands = append(bands, api.Band{Track: i, From: from, To: to})
		from = to - r.format.Gap
	}
	return bands
}

// low reports whether a band ends below the least radius of its track.
func (r room) low(b api.Band) bool { return b.To < r.tracks[b.Track].Least }

// overfull reports whether a side with these bands ends farther in than it may.
func (r room) overfull(bands []api.Band) bool {
	last := r.format.Outer - r.format.Lead
	if len(bands) > 0 {
		last = bands[len(bands)-1].To
	}
	return last-r.format.Tail < r.format.Inner
}

func (r room) possible(order []int) bool {
	bands := r.bands(order)
	return !slices.ContainsFunc(bands, r.low) && !r.overfull(bands)
}

// usual returns the usual order of a set of tracks.
func (r room) usual(s set) []int {
	order := s.list()
	slices.SortFunc(order, r.compare)
	return order
}

// compare is below 0 if the track i comes before the track j in the usual order.
func (r room) compare(i, j int) int {
	return cmp.Or(cmp.Compare(r.tracks[j].Least, r.tracks[i].Least), cmp.Compare(i, j))
}

// crowded reports whether at least one track, laid in the usual order, is a crowd.
func (r room) crowded(bands []api.Band) bool {
	return r.low(bands[len(bands)-1]) || r.overfull(bands)
}

// firstCrowd returns the first crowd of tracks whose usual order is not possible.
func (r room) firstCrowd(usual []int) set {
	bands := r.bands(usual)
	k := 1
	for k < len(bands) && !r.crowded(bands[:k]) {
		k++
	}
	return setOf(usual[:k])
}
