package side

import (
	"slices"

	"deadwax/api"
)

// CheckFormat reports whether a format is valid. (P4.1)
func CheckFormat(f api.Format) api.Errno {
	valid := validName(f.Name) &&
		0 <= f.Inner && f.Inner < f.Outer && f.Outer <= api.MaxRadius &&
		between(1, f.Per, api.MaxPer) &&
		between(0, f.Lead, api.MaxRadius) &&
		between(0, f.Gap, api.MaxRadius) &&
		between(0, f.Tail, api.MaxRadius) &&
		between(0, f.Cost, api.MaxCost)
	if !valid {
		return api.ErrArg
	}
	return api.OK
}

func validName(s string) bool {
	if len(s) < 1 || len(s) > api.MaxName {
		return false
	}
	for i := range len(s) {
		letter := between('a', s[i], 'z')
		digit := between('0', s[i], '9')
		if !letter && !digit {
			return false
		}
	}
	return true
}

func checkFormats(l []api.Format) api.Errno {
	if len(l) == 0 || len(l) > api.MaxFormats {
		return api.ErrMany
	}
	for _, f := range l {
		if e := CheckFormat(f); e != api.OK {
			return e
		}
	}
	return api.OK
}

// CheckTracks reports whether tracks are valid. (P4.1)
func CheckTracks(l []api.Track) api.Errno {
	if len(l) > api.MaxTracks {
		return api.ErrMany
	}
	if !all(l, validTrack) {
		return api.ErrArg
	}
	return api.OK
}

func validTrack(t api.Track) bool {
	return between(1, t.Long, api.MaxMinutes) &&
		between(1, t.Pitch, api.MaxBreadth) &&
		between(0, t.Least, api.MaxRadius)
}

// checkOrder asks for different indexes of so many tracks.
func checkOrder(order []int, tracks int) api.Errno {
	var earlier set
	for _, i := range order {
		if i < 0 || i >= tracks {
			return api.ErrRange
		}
		if earlier.has(i) {
			return api.ErrHave
		}
		earlier = earlier.with(i)
	}
	return api.OK
}

// checkSet asks for a strictly increasing list of indexes of so many tracks.
func checkSet(l []int, tracks int) api.Errno {
	if len(l) == 0 {
		return api.ErrRange
	}
	before := -1
	for _, i := range l {
		if i <= before || i >= tracks {
			return api.ErrRange
		}
		before = i
	}
	return api.OK
}

// checkPlan asks for faces of so many formats that have so many tracks together.
func checkPlan(plan []api.Face, formats, tracks int) api.Errno {
	if len(plan) > api.MaxTracks {
		return api.ErrMany
	}
	together := 0
	for _, x := range plan {
		if !between(0, x.Format, formats-1) || !between(1, x.Many, api.MaxTracks) {
			return api.ErrRange
		}
		together += x.Many
	}
	if together != tracks {
		return api.ErrEqual
	}
	return api.OK
}

// checkPrices does not ask whether the prices are right.
func checkPrices(prices []int64, tracks int) api.Errno {
	if len(prices) != tracks+1 {
		return api.ErrEqual
	}
	if prices[0] != 0 || !all(prices, validPrice) {
		return api.ErrRange
	}
	return api.OK
}

func validPrice(p int64) bool { return between(unplanned, p, api.MaxCost*api.MaxTracks) }

func checkAlone(l []api.Track) api.Errno {
	if len(l) > api.MaxAlone {
		return api.ErrMany
	}
	return api.OK
}

func all[T any](l []T, valid func(T) bool) bool {
	return !slices.ContainsFunc(l, func(x T) bool { return !valid(x) })
}

func between[T byte | int | int64](low, x, high T) bool { return low <= x && x <= high }
