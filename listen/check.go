package listen

import (
	"cmp"
	"slices"

	"deadwax/api"
)

func validSampling(lot, sample, most int) bool {
	return between(0, sample, lot) && between(-1, most, lot)
}

func (t trial) valid() bool {
	return between(0, t.lot, api.MaxLot) && 0 <= t.good && t.good < t.bad && t.bad <= t.lot &&
		between(0, t.refuse, thousand) &&
		between(0, t.accept, thousand)
}

func validPlates(l []api.Plate) bool {
	for i, p := range l {
		if !between(api.PlateLacquer, p.Kind, api.PlateStamper) || !validParent(l[:i], p) {
			return false
		}
	}
	return true
}

// validParent reports whether a plate has a parent among those before it, or needs none.
func validParent(before []api.Plate, p api.Plate) bool {
	if p.Kind == api.PlateLacquer {
		return p.Parent == -1
	}
	return between(0, p.Parent, len(before)-1) && before[p.Parent].Kind == p.Kind-1
}

func validDiscs(p []api.Plate, l []api.Disc) bool {
	for i, d := range l {
		if d.Serial < 0 || i > 0 && d.Serial <= l[i-1].Serial || !isStamper(p, d.A) || !isStamper(p, d.B) {
			return false
		}
	}
	return true
}

// isStamper reports whether a number is that of a stamper, plus 1.
func isStamper(p []api.Plate, number int64) bool {
	return between(1, number, int64(len(p))) && p[number-1].Kind == api.PlateStamper
}

func checkSide(side int) api.Errno {
	if !between(0, side, 1) {
		return api.ErrRange
	}
	return api.OK
}

// checkHearings checks hearings of discs, whose serial numbers must increase.
func checkHearings(d []api.Disc, l []api.Hearing) api.Errno {
	if len(l) > api.MaxHeard {
		return api.ErrMany
	}
	for _, h := range l {
		if _, found := slices.BinarySearchFunc(d, h.Serial, bySerial); !found {
			return api.ErrNone
		}
	}
	return api.OK
}

func bySerial(d api.Disc, serial int64) int { return cmp.Compare(d.Serial, serial) }

func between[T cmp.Ordered](low, x, high T) bool { return low <= x && x <= high }
