package sleeve

import (
	"cmp"

	"deadwax/api"
)

func validFolds(f []int) bool {
	for _, x := range f {
		if !between(api.FoldLeft, x, api.FoldUp) {
			return false
		}
	}
	return true
}

func validCopies(copies []int64) bool {
	for _, n := range copies {
		if !between(1, n, api.MaxCopies) {
			return false
		}
	}
	return true
}

// validGang reports whether each design is on a plate of an earlier one, or on the next plate.
func validGang(gang []int) bool {
	next := 0
	for _, plate := range gang {
		if !between(0, plate, next) {
			return false
		}
		next = max(next, plate+1)
	}
	return true
}

// validPanel reports whether all numbers of a panel are as they have to be if there are so many before it.
func validPanel(p api.Panel, before int) bool {
	if !between(1, p.Wide, api.MaxPanel) || !between(1, p.High, api.MaxPanel) {
		return false
	}
	if before == 0 {
		return p.On == -1 && p.Edge == 0 && p.Off == 0
	}
	return between(0, p.On, before-1) && between(api.EdgeRight, p.Edge, api.EdgeFoot) && between(-api.MaxPanel, p.Off, api.MaxPanel)
}

func between[T cmp.Ordered](low, x, high T) bool { return low <= x && x <= high }
