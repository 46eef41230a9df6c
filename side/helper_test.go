package side_test

import (
	"cmp"
	"math"
	"math/rand"
	"slices"
	"strings"
	"testing"

	"deadwax/api"
	"deadwax/side"
)

// example is the format of the chapter's examples.
func example() api.Format {
	return api.Format{Name: "f", Outer: 1000, Inner: 400, Per: 10, Lead: 20, Gap: 10, Tail: 30, Cost: 5}
}

// examples are the tracks of the chapter's examples.
func examples() []api.Track {
	return []api.Track{{Long: 95, Pitch: 20, Least: 500}, {Long: 30, Pitch: 40, Least: 800}, {Long: 41, Pitch: 10}}
}

// named returns a format of the examples with another name.
func named(s string) api.Format {
	f := example()
	f.Name = s
	return f
}

// costing returns a format of the examples with another cost.
func costing(c int64) api.Format {
	f := example()
	f.Cost = c
	return f
}

// wide returns tracks with these widths on the format of the examples, which can be cut everywhere.
func wide(widths ...int64) []api.Track {
	var l []api.Track
	for _, w := range widths {
		l = append(l, api.Track{Long: 1, Pitch: w})
	}
	return l
}

// beyond are numbers that are not from least to most.
func beyond(least, most int64) []int64 {
	return []int64{least - 1, most + 1, least - 1<<40, most + 1<<40, math.MinInt64, math.MinInt64 + 1, math.MaxInt64, math.MaxInt64 - 1}
}

// invalidFormats are formats each of which is wrong in one field.
func invalidFormats() []api.Format {
	l := []api.Format{{}}
	for _, s := range []string{"", "Seven", "seven ", " seven", "a-b", "a_b", "/", ":", "`", "{", "@", "[", "é", "\x00", "\xff", "sev\nen", strings.Repeat("a", api.MaxName+1), strings.Repeat("7", 1000)} {
		l = append(l, named(s))
	}
	wrong := func(least, most int64, set func(*api.Format, int64)) {
		for _, x := range beyond(least, most) {
			f := example()
			set(&f, x)
			l = append(l, f)
		}
	}
	wrong(401, api.MaxRadius, func(f *api.Format, x int64) { f.Outer = x })
	wrong(0, 999, func(f *api.Format, x int64) { f.Inner = x })
	wrong(1, api.MaxPer, func(f *api.Format, x int64) { f.Per = x })
	wrong(0, api.MaxRadius, func(f *api.Format, x int64) { f.Lead = x })
	wrong(0, api.MaxRadius, func(f *api.Format, x int64) { f.Gap = x })
	wrong(0, api.MaxRadius, func(f *api.Format, x int64) { f.Tail = x })
	wrong(0, api.MaxCost, func(f *api.Format, x int64) { f.Cost = x })
	return l
}

// invalidTracks are tracks each of which is wrong in one field.
func invalidTracks() []api.Track {
	l := []api.Track{{}}
	for _, x := range beyond(1, api.MaxMinutes) {
		l = append(l, api.Track{Long: x, Pitch: 1})
	}
	for _, x := range beyond(1, api.MaxBreadth) {
		l = append(l, api.Track{Long: 1, Pitch: x})
	}
	for _, x := range beyond(0, api.MaxRadius) {
		l = append(l, api.Track{Long: 1, Pitch: 1, Least: x})
	}
	return l
}

// tooManyTracks are 25 tracks, none of which is valid.
func tooManyTracks() []api.Track { return make([]api.Track, api.MaxTracks+1) }

// someFormat returns a small format, on which some of someTracks have room.
func someFormat(r *rand.Rand) api.Format {
	return api.Format{
		Name: "some", Outer: 60 + r.Int63n(60), Inner: r.Int63n(60), Per: 1 + r.Int63n(6),
		Lead: r.Int63n(8), Gap: r.Int63n(5), Tail: r.Int63n(8), Cost: r.Int63n(4),
	}
}

func someFormats(r *rand.Rand, n int) []api.Format {
	var l []api.Format
	for range n {
		l = append(l, someFormat(r))
	}
	return l
}

// someTracks returns up to most tracks, of which some are alike and some need to be far out.
func someTracks(r *rand.Rand, most int) []api.Track {
	var l []api.Track
	for range r.Intn(most + 1) {
		t := api.Track{Long: 1 + r.Int63n(16), Pitch: 1 + r.Int63n(8)}
		if r.Intn(2) == 0 {
			t.Least = 10 * r.Int63n(12)
		}
		l = append(l, t)
	}
	return l
}

// wantedWidth follows the definition of the chapter.
func wantedWidth(f api.Format, t api.Track) int64 {
	turns := t.Long / f.Per
	if turns*f.Per < t.Long {
		turns++
	}
	return turns * t.Pitch
}

// wantedSide follows the definition of the chapter: it returns the bands of an order, and the end of the side.
func wantedSide(f api.Format, l []api.Track, order []int) ([]api.Band, int64) {
	var bands []api.Band
	at := f.Outer - f.Lead
	for i, x := range order {
		if i > 0 {
			at -= f.Gap
		}
		bands = append(bands, api.Band{Track: x, From: at, To: at - wantedWidth(f, l[x])})
		at -= wantedWidth(f, l[x])
	}
	return bands, at - f.Tail
}

// wantedLay follows the definition of the chapter, for an order of different indexes.
func wantedLay(f api.Format, l []api.Track, order []int) ([]api.Band, int, api.Errno) {
	bands, end := wantedSide(f, l, order)
	for i, b := range bands {
		if b.To < l[b.Track].Least {
			return nil, i, api.ErrRule
		}
	}
	if end < f.Inner {
		return nil, len(order), api.ErrLimit
	}
	return bands, len(order), api.OK
}

func isPossible(f api.Format, l []api.Track, order []int) bool {
	_, _, e := wantedLay(f, l, order)
	return e == api.OK
}

// orders yields all orders of some indexes.
func orders(tracks []int, yield func([]int) bool) bool {
	var turn func(k int) bool
	order := slices.Clone(tracks)
	turn = func(k int) bool {
		if k == len(order) {
			return yield(order)
		}
		for i := k; i < len(order); i++ {
			order[k], order[i] = order[i], order[k]
			if !turn(k + 1) {
				return false
			}
			order[k], order[i] = order[i], order[k]
		}
		return true
	}
	return turn(0)
}

// hasOrder tries all orders of some tracks.
func hasOrder(f api.Format, l []api.Track, tracks []int) bool {
	found := false
	orders(tracks, func(order []int) bool {
		found = isPossible(f, l, order)
		return !found
	})
	return found
}

// wantedUsual takes the greatest Least again and again, and of several the first.
func wantedUsual(l []api.Track, tracks []int) []int {
	rest := slices.Clone(tracks)
	var order []int
	for len(rest) > 0 {
		first := 0
		for i, x := range rest {
			if l[x].Least > l[rest[first]].Least {
				first = i
			}
		}
		order = append(order, rest[first])
		rest = slices.Delete(rest, first, first+1)
	}
	return order
}

// isCrowd follows the definition of the chapter, for at least one track.
func isCrowd(f api.Format, l []api.Track, tracks []int) bool {
	bands, end := wantedSide(f, l, wantedUsual(l, tracks))
	last := bands[len(bands)-1]
	return end < f.Inner || last.To < l[last.Track].Least
}

// wantedCrowd returns the first crowd, nil if there is none.
func wantedCrowd(f api.Format, l []api.Track) []int {
	usual := wantedUsual(l, upTo(len(l)))
	for k := 1; k <= len(usual); k++ {
		crowd := slices.Sorted(slices.Values(usual[:k]))
		if isCrowd(f, l, crowd) {
			return crowd
		}
	}
	return nil
}

// upTo are the numbers from 0 to n - 1.
func upTo(n int) []int {
	var l []int
	for i := range n {
		l = append(l, i)
	}
	return l
}

// subsets are all strictly increasing lists of numbers from 0 to n - 1.
func subsets(n int) [][]int {
	l := [][]int{nil}
	for i := range n {
		for _, s := range l {
			l = append(l, append(slices.Clone(s), i))
		}
	}
	return l
}

// allPlans are all possible plans of an album.
func allPlans(formats []api.Format, l []api.Track) [][]api.Face {
	if len(l) == 0 {
		return [][]api.Face{nil}
	}
	var plans [][]api.Face
	for i, f := range formats {
		for many := 1; many <= len(l); many++ {
			if !isPossible(f, l, upTo(many)) {
				continue
			}
			for _, rest := range allPlans(formats, l[many:]) {
				plans = append(plans, append([]api.Face{{Format: i, Many: many}}, rest...))
			}
		}
	}
	return plans
}

func wantedCost(formats []api.Format, plan []api.Face) int64 {
	sum := int64(0)
	for _, x := range plan {
		sum += formats[x.Format].Cost
	}
	return sum
}

func compareFaces(x, y api.Face) int {
	return cmp.Or(cmp.Compare(x.Format, y.Format), cmp.Compare(x.Many, y.Many))
}

// wantedAlbum looks for the best one of all plans.
func wantedAlbum(formats []api.Format, l []api.Track) ([]api.Face, int64, api.Errno) {
	plans := allPlans(formats, l)
	if len(plans) == 0 {
		return nil, 0, api.ErrPlan
	}
	best := slices.MinFunc(plans, func(p, q []api.Face) int {
		return cmp.Or(
			cmp.Compare(wantedCost(formats, p), wantedCost(formats, q)),
			cmp.Compare(len(p), len(q)),
			slices.CompareFunc(p, q, compareFaces))
	})
	return best, wantedCost(formats, best), api.OK
}

func wantedPrices(formats []api.Format, l []api.Track) []int64 {
	var prices []int64
	for n := range len(l) + 1 {
		_, price, e := wantedAlbum(formats, l[:n])
		if e != api.OK {
			price = -1
		}
		prices = append(prices, price)
	}
	return prices
}

// wantedWrong returns the least j for which a face breaks the rule of prices, 0 if none does.
func wantedWrong(formats []api.Format, l []api.Track, prices []int64) int {
	for j := range prices {
		for i := range j {
			for _, f := range formats {
				if isPossible(f, l[i:j], upTo(j-i)) && prices[i] != -1 && (prices[j] == -1 || prices[j] > prices[i]+f.Cost) {
					return j
				}
			}
		}
	}
	return 0
}

// packings are all packings of n tracks, possible or not, in lexicographic order.
func packings(n int) [][]int {
	l := [][]int{nil}
	for range n {
		var longer [][]int
		for _, p := range l {
			for s := range sidesOf(p) + 1 {
				longer = append(longer, append(slices.Clone(p), s))
			}
		}
		l = longer
	}
	return l
}

func sidesOf(packing []int) int {
	if len(packing) == 0 {
		return 0
	}
	return slices.Max(packing) + 1
}

// isPossiblePacking tries all orders of the tracks of each side.
func isPossiblePacking(f api.Format, l []api.Track, packing []int) bool {
	for s := range sidesOf(packing) {
		if !hasOrder(f, l, tracksOn(s, packing)) {
			return false
		}
	}
	return true
}

func tracksOn(s int, packing []int) []int {
	var tracks []int
	for i, x := range packing {
		if x == s {
			tracks = append(tracks, i)
		}
	}
	return tracks
}

func wantedPack(f api.Format, l []api.Track) ([]int, int, api.Errno) {
	var best []int
	found := false
	for _, p := range packings(len(l)) {
		if (!found || sidesOf(p) < sidesOf(best)) && isPossiblePacking(f, l, p) {
			best, found = p, true
		}
	}
	if !found {
		return nil, 0, api.ErrPlan
	}
	return best, sidesOf(best), api.OK
}

func checkAlbum(t *testing.T, formats []api.Format, l []api.Track, want []api.Face, cost int64, e api.Errno) {
	t.Helper()
	if p, n, got := side.Album(formats, l); !slices.Equal(p, want) || n != cost || got != e {
		t.Errorf("Album of %v on %v: %v, %d, %d, not %v, %d, %d", l, formats, p, n, got, want, cost, e)
	}
}

func checkPack(t *testing.T, f api.Format, l []api.Track, want []int, many int, e api.Errno) {
	t.Helper()
	if p, n, got := side.Pack(f, l); !slices.Equal(p, want) || n != many || got != e {
		t.Errorf("Pack of %v on %v: %v, %d, %d, not %v, %d, %d", l, f, p, n, got, want, many, e)
	}
}
