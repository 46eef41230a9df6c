package press

import (
	"slices"

	"deadwax/api"
)

// Mounts returns how stampers are used in turn. (P8.6)
func Mounts(a, b []int64, discs int64) ([]api.Mount, api.Errno) {
	if e := checkSets(a, b); e != api.OK {
		return nil, e
	}
	if !between(0, discs, api.MaxNumber) {
		return nil, api.ErrRange
	}
	if min(sum(a), sum(b)) < discs {
		return nil, api.ErrPlan
	}
	return inTurn(slices.Clone(a), slices.Clone(b), discs), api.OK
}

// inTurn uses up the stampers of both sides, which must be able to press so many discs.
func inTurn(a, b []int64, discs int64) []api.Mount {
	var l []api.Mount
	for i, j := 0, 0; discs > 0; {
		switch {
		case a[i] == 0:
			i++
		case b[j] == 0:
			j++
		default:
			many := min(a[i], b[j], discs)
			l = append(l, api.Mount{A: i, B: j, Many: many})
			a[i] -= many
			b[j] -= many
			discs -= many
		}
	}
	return l
}

func sum(l []int64) int64 {
	s := int64(0)
	for _, x := range l {
		s += x
	}
	return s
}
