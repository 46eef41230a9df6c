package groove

import "deadwax/api"

// Check reports whether a cutter is valid. (P3.1)
func Check(c api.Cutter) api.Errno {
	valid := between(1, c.Half, api.MaxHalf) &&
		between(0, c.Gain, api.MaxGain) &&
		between(0, c.Thin, c.Wide) &&
		between(0, c.Wide, api.MaxWide) &&
		between(0, c.Slope, api.MaxSlope) &&
		between(0, c.Jerk, api.MaxJerk) &&
		between(0, c.Stylus, api.MaxStylus)
	if !valid {
		return api.ErrArg
	}
	return api.OK
}

// CheckPoints reports whether points are a groove. (P3.1)
func CheckPoints(l []api.Point) api.Errno {
	if len(l) > api.MaxLong {
		return api.ErrMany
	}
	for _, p := range l {
		if e := checkEdges(p); e != api.OK {
			return e
		}
	}
	return api.OK
}

// checkEdges asks for amounts without computing them: the least int64 has none.
func checkEdges(p api.Point) api.Errno {
	if !between(-api.MaxEdge, p.In, api.MaxEdge) || !between(-api.MaxEdge, p.Out, api.MaxEdge) {
		return api.ErrArg
	}
	return api.OK
}

func checkRadius(r int64) api.Errno { return checkRange(0, r, api.MaxRadius) }

func checkTurn(per int64) api.Errno { return checkRange(1, per, api.MaxPer) }

func checkRange(low, x, high int64) api.Errno {
	if !between(low, x, high) {
		return api.ErrRange
	}
	return api.OK
}

func between(low, x, high int64) bool { return low <= x && x <= high }
