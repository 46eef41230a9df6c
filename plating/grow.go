package plating

import (
	"sort"

	"deadwax/api"
)

// growth is what goes through a bath to grow a plate, and the metal that is laid: that of the strike, and all of it.
type growth struct {
	area, charge  int64
	strike, metal int64
}

// growth returns what an act would do whose plate and bath there are.
func (s *Shop) growth(a api.PlateAct) growth {
	strike, rest := a.Strike[0]*a.Strike[1], a.Current*a.Seconds
	yield := s.tanks[a.Bath].Yield
	first := metal(strike, yield)
	return growth{s.plates[a.Plate].Area, strike + rest, first, first + metal(rest, yield)}
}

// metal returns what a charge lays.
func metal(charge, yield int64) int64 { return charge * yield / 1000 }

// seed returns the thickness after the strike.
func (g growth) seed() int64 { return 1000 * g.strike / g.area }

func (g growth) thick() int64 { return 1000 * g.metal / g.area }

// checkGrowth returns the errors of a growth that do not depend on its metal.
func (s *Shop) checkGrowth(a api.PlateAct) api.Errno {
	if !has(s.tanks, a.Bath) {
		return api.ErrNone
	}
	if e := s.checkInUse(a.Plate); e != api.OK {
		return e
	}
	p := s.plates[a.Plate]
	if s.room(p) == 0 || len(s.plates) == api.MaxPlates {
		return api.ErrFull
	}
	if a.Strike[0]*1000 > s.recipe.Soft*p.Area || a.Current*1000 > s.recipe.Hard*p.Area {
		return api.ErrLimit
	}
	return api.OK
}

// checkMetal returns the errors of a growth that come after those of checkGrowth, which it must not have.
func (s *Shop) checkMetal(a api.PlateAct) api.Errno {
	g := s.growth(a)
	kind := s.plates[a.Plate].Kind + 1
	if g.seed() < s.recipe.Seed || !between(s.recipe.Thin[kind], g.thick(), s.recipe.Thick[kind]) {
		return api.ErrRule
	}
	if g.metal > s.tanks[a.Bath].Stock {
		return api.ErrOld
	}
	return api.OK
}

// enough returns the least seconds with which a plate gets thick enough, MaxFlow if there are none.
func (s *Shop) enough(a api.PlateAct) int64 {
	thin := s.recipe.Thin[s.plates[a.Plate].Kind+1]
	return int64(sort.Search(api.MaxFlow, func(seconds int) bool {
		a.Seconds = int64(seconds)
		return s.growth(a).thick() >= thin
	}))
}
