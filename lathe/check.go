package lathe

import (
	"iter"
	"slices"

	"deadwax/api"
)

// Check reports whether a blank is valid. (P5.1)
func Check(b api.Blank) api.Errno {
	valid := between(1, b.Per, api.MaxPer) &&
		between(0, b.Core, b.Rim) &&
		between(0, b.Rim, api.MaxRadius) &&
		between(0, b.Land, api.MaxLand) &&
		between(0, b.Slow, b.Fast) &&
		between(0, b.Fast, api.MaxInward)
	if !valid {
		return api.ErrArg
	}
	return api.OK
}

// checkCut does not ask whether the cut keeps the rules.
func checkCut(l []api.Point, r []int64) api.Errno {
	if len(r) != len(l) {
		return api.ErrEqual
	}
	if _, found := first(slices.Values(r), tooFar); found {
		return api.ErrArg
	}
	return api.OK
}

func tooFar(r int64) bool { return !between(-api.MaxPlace, r, api.MaxPlace) }

func checkHalf(half int64) api.Errno {
	if !between(1, half, api.MaxHalf) {
		return api.ErrRange
	}
	return api.OK
}

func between(low, x, high int64) bool { return low <= x && x <= high }

// first returns the first element that is wrong, and whether there is one.
func first[T any](l iter.Seq[T], wrong func(T) bool) (T, bool) {
	for x := range l {
		if wrong(x) {
			return x, true
		}
	}
	var none T
	return none, false
}
