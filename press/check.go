package press

import (
	"cmp"

	"deadwax/api"
)

// valid reports whether a press is one that this package returned. A press that a program copied by assignment would share memory with the first one: it still points to this one, and is not valid.
func (p *Press) valid() bool { return p != nil && p.self == p }

func validMachine(m api.Machine) bool {
	return 0 <= m.Room && m.Room <= m.Cool && m.Cool < m.Melt && m.Melt <= m.Top && m.Top <= api.MaxTemp &&
		between(1, m.Heat, api.MaxTemp) &&
		between(1, m.Chill, api.MaxTemp) &&
		between(0, m.Drift, api.MaxTemp) &&
		between(1, m.Hold, api.MaxHold) &&
		between(1, m.Life, api.MaxLife)
}

// checkTemp reports whether a machine is valid, and can have a temperature.
func checkTemp(m api.Machine, temp int64) api.Errno {
	if e := Check(m); e != api.OK {
		return e
	}
	if !between(m.Room, temp, m.Top) {
		return api.ErrRange
	}
	return api.OK
}

func validStamper(n int64) bool { return between(1, n, api.MaxNumber) }

func checkHouse(h house, discs int) api.Errno {
	if !between(1, h.presses, api.MaxPresses) || !between(1, h.boiler, api.MaxPresses) || !between(1, h.steam, api.MaxPhase) || !between(1, h.rest, api.MaxPhase) {
		return api.ErrRange
	}
	if !between(0, discs, api.MaxDiscs) {
		return api.ErrMany
	}
	return api.OK
}

func checkSets(a, b []int64) api.Errno {
	if len(a) > api.MaxSets || len(b) > api.MaxSets {
		return api.ErrMany
	}
	return cmp.Or(checkLives(a), checkLives(b))
}

func checkLives(l []int64) api.Errno {
	for _, discs := range l {
		if !between(0, discs, api.MaxLife) {
			return api.ErrArg
		}
	}
	return api.OK
}

func checkSpots(l ...api.Spot) api.Errno {
	for _, s := range l {
		if !between(-api.MaxSpot, s.X, api.MaxSpot) || !between(-api.MaxSpot, s.Y, api.MaxSpot) {
			return api.ErrRange
		}
	}
	return api.OK
}

func between[T cmp.Ordered](low, x, high T) bool { return low <= x && x <= high }
