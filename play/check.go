package play

import (
	"slices"

	"deadwax/api"
)

// CheckTip reports whether a tip is valid. (P6.1)
func CheckTip(t api.Tip) api.Errno {
	n := len(t.Shape)
	if n < 1 || n > api.MaxReach {
		return api.ErrMany
	}
	if t.Shape[0] != 0 || t.Shape[n-1] > api.MaxEdge || !slices.IsSorted(t.Shape) {
		return api.ErrArg
	}
	return api.OK
}

// checkBlunter reports whether a tip is blunter than another one.
func checkBlunter(t, other api.Tip) api.Errno {
	if len(t.Shape) < len(other.Shape) {
		return api.ErrRule
	}
	for k, behind := range other.Shape {
		if t.Shape[k] > behind {
			return api.ErrRule
		}
	}
	return api.OK
}

func checkRound(radius, arc int64) api.Errno {
	if !between(0, radius, api.MaxStylus) || !between(1, arc, api.MaxEdge) {
		return api.ErrRange
	}
	if elements(radius, arc) > api.MaxReach {
		return api.ErrMany
	}
	return api.OK
}

func checkOffset(off, r, per int64) api.Errno {
	if !between(0, off, api.MaxEdge) || !between(0, r, api.MaxRadius) || !between(1, per, api.MaxPer) {
		return api.ErrRange
	}
	if r == 0 {
		return api.ErrZero
	}
	return api.OK
}

func checkWow(wow int64) api.Errno {
	if !between(0, wow, api.MaxWow) {
		return api.ErrRange
	}
	return api.OK
}

func checkExtents(h api.Heard) api.Errno {
	if h.In.Lo > h.In.Hi || h.Out.Lo > h.Out.Hi {
		return api.ErrArg
	}
	return api.OK
}

func checkArm(a api.Arm) api.Errno {
	if !between(0, a.Hold, api.MaxForce) || !between(-api.MaxForce, a.Skate, api.MaxForce) {
		return api.ErrArg
	}
	return api.OK
}

// checkCut does not ask whether the cut keeps the rules of a blank.
func checkCut(l []api.Point, radii []int64) api.Errno {
	if len(radii) != len(l) {
		return api.ErrEqual
	}
	for _, r := range radii {
		if !between(-api.MaxPlace, r, api.MaxPlace) {
			return api.ErrArg
		}
	}
	return api.OK
}

func checkAngle(per, angle int64) api.Errno {
	if !between(1, per, api.MaxPer) || !between(0, angle, per-1) {
		return api.ErrRange
	}
	return api.OK
}

func between(low, x, high int64) bool { return low <= x && x <= high }
