package plating

import (
	"cmp"

	"deadwax/api"
)

// valid reports whether a shop is one that this package returned. A shop that a program copied by assignment would share memory with the first one: it still points to this one, and is not valid.
func (s *Shop) valid() bool { return s != nil && s.self == s }

func (s *Shop) checkPlate(plate int) api.Errno {
	if !s.valid() {
		return api.ErrNil
	}
	if !has(s.plates, plate) {
		return api.ErrNone
	}
	return api.OK
}

func (s *Shop) checkFlaw(flaw int) api.Errno {
	if !s.valid() {
		return api.ErrNil
	}
	if !has(s.flaws, flaw) {
		return api.ErrNone
	}
	return api.OK
}

func validRecipe(r api.Recipe) bool {
	for kind := api.PlateFather; kind <= api.PlateStamper; kind++ {
		if !between(0, r.Thin[kind], r.Thick[kind]) || r.Thick[kind] > api.MaxThick {
			return false
		}
	}
	return between(0, r.Seed, api.MaxThick) &&
		between(0, r.Soft, api.MaxDense) &&
		between(0, r.Hard, api.MaxDense) &&
		between(1, r.Mothers, api.MaxGrown) &&
		between(1, r.Stampers, api.MaxGrown)
}

func validAct(a api.PlateAct) bool {
	switch a.Kind {
	case api.DoLacquer:
		return between(0, a.Cut, api.MaxCut) && between(1, a.Area, api.MaxArea)
	case api.DoBath:
		return between(0, a.Stock, api.MaxStock) && between(1, a.Yield, api.MaxYield)
	case api.DoGrow:
		return validFlow(a.Strike[0]) && validFlow(a.Strike[1]) && validFlow(a.Current) && validFlow(a.Seconds)
	case api.DoFlaw:
		return between(0, a.Place, api.MaxAngle-1)
	case api.DoMend, api.DoRetire:
		return true
	}
	return false
}

// validFlow is for currents and for seconds.
func validFlow(x int64) bool { return between(0, x, api.MaxFlow) }

func between[T cmp.Ordered](low, x, high T) bool { return low <= x && x <= high }

// has reports whether there is an element with this number.
func has[T any](l []T, n int) bool { return 0 <= n && n < len(l) }
