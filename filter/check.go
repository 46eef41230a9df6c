package filter

import (
	"cmp"

	"deadwax/api"
)

// CheckCurve reports whether a curve is valid. (P2.1)
func CheckCurve(c api.Curve) api.Errno {
	if len(c.Feed) > api.MaxTaps || len(c.Back) > api.MaxTaps {
		return api.ErrMany
	}
	if !allWithin(c.Feed, api.MaxWeight) || !allWithin(c.Back, api.MaxWeight) {
		return api.ErrArg
	}
	if c.Share < 1 || c.Share > api.MaxShare {
		return api.ErrArg
	}
	return api.OK
}

func checkCurves(l []api.Curve) api.Errno {
	if len(l) > api.MaxCurves {
		return api.ErrMany
	}
	for _, c := range l {
		if e := CheckCurve(c); e != api.OK {
			return e
		}
	}
	return api.OK
}

func checkSignal(x []int64) api.Errno {
	if len(x) > api.MaxLong {
		return api.ErrMany
	}
	if !allWithin(x, api.MaxSample) {
		return api.ErrRange
	}
	return api.OK
}

func checkProgramme(p []api.Sample) api.Errno {
	if len(p) > api.MaxLong {
		return api.ErrMany
	}
	for _, s := range p {
		if !validSample(s) {
			return api.ErrRange
		}
	}
	return api.OK
}

func checkSides(middle, side []int64) api.Errno {
	if len(middle) > api.MaxLong || len(side) > api.MaxLong {
		return api.ErrMany
	}
	if len(middle) != len(side) {
		return api.ErrEqual
	}
	if !allWithin(middle, api.MaxSample) || !allWithin(side, maxSide) {
		return api.ErrRange
	}
	return api.OK
}

func checkCeiling(p []api.Sample, ceiling int64) api.Errno {
	return cmp.Or(checkProgramme(p), checkRange(ceiling, 1, api.MaxSample))
}

func checkLimiter(p []api.Sample, ceiling, step int64) api.Errno {
	return cmp.Or(checkCeiling(p, ceiling), checkRange(step, 0, api.FullGain))
}

func checkRange(x, least, most int64) api.Errno {
	if x < least || x > most {
		return api.ErrRange
	}
	return api.OK
}

func validSample(s api.Sample) bool {
	return within(s.L, api.MaxSample) && within(s.R, api.MaxSample)
}

func allWithin(l []int64, most int64) bool {
	for _, x := range l {
		if !within(x, most) {
			return false
		}
	}
	return true
}

// within asks for the amount of x without computing it: the least int64 has none.
func within(x, most int64) bool { return -most <= x && x <= most }
