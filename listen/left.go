package listen

import (
	"slices"

	"deadwax/api"
)

// left is the causes that are left of all, in their order, and for each one the discs that have it.
type left struct {
	serials []int64
	causes  []api.Cause
	having  []set[int64]
}

// left returns the causes that explain hearings.
func (f face) left(hearings []api.Hearing) left {
	l := left{serials: f.serials}
	for c := range f.causes() {
		if discs := f.having(c); explains(discs, hearings) {
			l.causes = append(l.causes, c)
			l.having = append(l.having, discs)
		}
	}
	return l
}

// explains reports whether a cause that some discs have explains hearings.
func explains(discs set[int64], hearings []api.Hearing) bool {
	for _, h := range hearings {
		if discs.has(h.Serial) != h.Yes {
			return false
		}
	}
	return true
}

// suspects returns the plates of the causes left, each once.
func (l left) suspects() []int {
	var plates []int
	for _, c := range l.causes {
		plates = append(plates, c.Plate)
	}
	return slices.Compact(plates)
}

// count returns how many of the causes left a disc has.
func (l left) count(serial int64) int {
	n := 0
	for _, discs := range l.having {
		if discs.has(serial) {
			n++
		}
	}
	return n
}

// certain returns the discs that have all causes left, if there are some.
func (l left) certain() []int64 {
	return l.where(func(count int) bool { return count > 0 && count == len(l.causes) })
}

// possible returns the discs that have one of the causes left.
func (l left) possible() []int64 {
	return l.where(func(count int) bool { return count > 0 })
}

// where returns the discs that have a wanted number of the causes left.
func (l left) where(wanted func(count int) bool) []int64 {
	return setWhere(l.serials, func(i int) bool { return wanted(l.count(l.serials[i])) }).list()
}

// differ reports whether two of the causes left are had by different discs.
func (l left) differ() bool {
	return len(l.having) > 0 && slices.ContainsFunc(l.having, l.having[0].differs)
}

// next returns the disc with the least rest, and its rest. There must be a disc.
func (l left) next() (int64, int) {
	next := slices.MinFunc(l.serials, l.byRest)
	return next, l.rest(next)
}

func (l left) byRest(a, b int64) int { return l.rest(a) - l.rest(b) }

// rest returns how many causes are left, at most, after listening to a disc.
func (l left) rest(serial int64) int {
	n := l.count(serial)
	return max(n, len(l.causes)-n)
}
