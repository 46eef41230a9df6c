package plating

import "deadwax/api"

// doing does a valid act, unless this has an error, and returns the number of what there is more then.
type doing func(*Shop, api.PlateAct) (int, api.Errno)

// doings are what the acts do, by their kinds.
func doings() [api.DoRetire + 1]doing {
	return [...]doing{
		api.DoLacquer: (*Shop).addLacquer,
		api.DoBath:    (*Shop).addBath,
		api.DoGrow:    (*Shop).grow,
		api.DoFlaw:    (*Shop).addFlaw,
		api.DoMend:    (*Shop).mend,
		api.DoRetire:  (*Shop).retire,
	}
}

func (s *Shop) addLacquer(a api.PlateAct) (int, api.Errno) {
	if len(s.plates) == api.MaxPlates {
		return 0, api.ErrFull
	}
	s.plates = append(s.plates, lacquer(a.Cut, a.Area))
	return len(s.plates) - 1, api.OK
}

func (s *Shop) addBath(a api.PlateAct) (int, api.Errno) {
	if len(s.tanks) == api.MaxBaths {
		return 0, api.ErrFull
	}
	s.tanks = append(s.tanks, api.Tank{Stock: a.Stock, Yield: a.Yield})
	return len(s.tanks) - 1, api.OK
}

func (s *Shop) grow(a api.PlateAct) (int, api.Errno) {
	if e := s.checkGrowth(a); e != api.OK {
		return 0, e
	}
	if e := s.checkMetal(a); e != api.OK {
		return 0, e
	}
	g := s.growth(a)
	t := &s.tanks[a.Bath]
	t.Charge += g.charge
	t.Stock -= g.metal
	t.Laid += g.metal
	s.plates = append(s.plates, s.plates[a.Plate].child(a.Plate, g.thick()))
	return len(s.plates) - 1, api.OK
}

func (s *Shop) addFlaw(a api.PlateAct) (int, api.Errno) {
	if e := s.checkInUse(a.Plate); e != api.OK {
		return 0, e
	}
	if len(s.flaws) == api.MaxFlaws {
		return 0, api.ErrFull
	}
	n := len(s.flaws)
	s.flaws = append(s.flaws, origin{a.Plate, a.Place})
	s.plates[a.Plate].flaws[n] = true
	return n, api.OK
}

func (s *Shop) mend(a api.PlateAct) (int, api.Errno) {
	if !has(s.flaws, a.Flaw) {
		return 0, api.ErrNone
	}
	if e := s.checkInUse(a.Plate); e != api.OK {
		return 0, e
	}
	p := s.plates[a.Plate]
	if !p.flaws[a.Flaw] {
		return 0, api.ErrLost
	}
	delete(p.flaws, a.Flaw)
	return 0, api.OK
}

func (s *Shop) retire(a api.PlateAct) (int, api.Errno) {
	if e := s.checkInUse(a.Plate); e != api.OK {
		return 0, e
	}
	s.plates[a.Plate].Retired = true
	return 0, api.OK
}

// checkInUse reports whether there is a plate, and it is not retired.
func (s *Shop) checkInUse(plate int) api.Errno {
	if !has(s.plates, plate) {
		return api.ErrNone
	}
	if s.plates[plate].Retired {
		return api.ErrState
	}
	return api.OK
}
