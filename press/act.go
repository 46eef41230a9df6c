package press

import "deadwax/api"

// doing does an act, unless this has an error, and returns the disc that comes out. With an error it may leave anything.
type doing func(*running, api.Act) (api.Disc, api.Errno)

// doings are what the acts do, by their kinds.
func doings() [api.ActOpen + 1]doing {
	return [...]doing{
		api.ActMount: (*running).mount,
		api.ActLoad:  (*running).load,
		api.ActClose: (*running).close,
		api.ActValve: (*running).turn,
		api.ActWait:  (*running).wait,
		api.ActOpen:  (*running).open,
	}
}

func (r *running) mount(a api.Act) (api.Disc, api.Errno) {
	switch {
	case !validStamper(a.A) || !validStamper(a.B):
		return api.Disc{}, api.ErrRange
	case a.A == a.B:
		return api.Disc{}, api.ErrEqual
	case r.now.Closed:
		return api.Disc{}, api.ErrHot
	case r.now.Loaded:
		return api.Disc{}, api.ErrState
	}
	r.now.A, r.now.B = a.A, a.B
	return api.Disc{}, r.checkUse()
}

func (r *running) load(api.Act) (api.Disc, api.Errno) {
	switch {
	case r.now.Closed:
		return api.Disc{}, api.ErrHot
	case r.now.Loaded || !r.mounted():
		return api.Disc{}, api.ErrState
	}
	if e := r.checkUse(); e != api.OK {
		return api.Disc{}, e
	}
	if len(r.discs) == api.MaxDiscs {
		return api.Disc{}, api.ErrFull
	}
	r.now.Loaded = true
	return api.Disc{}, api.OK
}

func (r *running) close(api.Act) (api.Disc, api.Errno) {
	if r.now.Closed || !r.now.Loaded {
		return api.Disc{}, api.ErrState
	}
	r.now.Closed, r.now.Held, r.now.Peak = true, 0, r.now.Temp
	return api.Disc{}, api.OK
}

func (r *running) turn(a api.Act) (api.Disc, api.Errno) {
	if !between(api.ValveShut, a.A, api.ValveWater) {
		return api.Disc{}, api.ErrRange
	}
	if a.A == api.ValveSteam && !r.now.Closed {
		return api.Disc{}, api.ErrHot
	}
	r.now.Valve = int(a.A)
	return api.Disc{}, api.OK
}

func (r *running) wait(a api.Act) (api.Disc, api.Errno) {
	if !between(1, a.A, api.MaxWait) {
		return api.Disc{}, api.ErrRange
	}
	if r.now.Time+a.A > api.MaxNumber {
		return api.Disc{}, api.ErrLimit
	}
	r.pass(a.A)
	return api.Disc{}, api.OK
}

func (r *running) open(api.Act) (api.Disc, api.Errno) {
	if !r.now.Closed {
		return api.Disc{}, api.ErrState
	}
	if r.now.Valve == api.ValveSteam || r.now.Temp > r.machine.Cool {
		return api.Disc{}, api.ErrHot
	}
	disc := api.Disc{
		Serial: int64(len(r.discs)) + 1,
		A:      r.now.A,
		B:      r.now.B,
		Time:   r.now.Time,
		Held:   r.now.Held,
		Peak:   r.now.Peak,
		Good:   r.now.Held >= r.machine.Hold,
	}
	r.discs = append(r.discs, disc)
	r.now.Closed, r.now.Loaded = false, false
	return disc, api.OK
}

// pass lets ticks pass.
func (r *running) pass(ticks int64) {
	for ticks > 0 {
		temp, many := after(r.machine, r.now.Temp, r.now.Valve), int64(1)
		if temp == r.now.Temp {
			many = ticks // it is the same after all the ticks that are left
		}
		r.now.Temp = temp
		r.now.Time += many
		if r.now.Closed {
			r.keep(many)
		}
		ticks -= many
	}
}

// keep counts ticks of a closed press that end with its temperature.
func (r *running) keep(ticks int64) {
	if r.now.Temp >= r.machine.Melt {
		r.now.Held += ticks
	}
	r.now.Peak = max(r.now.Peak, r.now.Temp)
}

func (r *running) mounted() bool { return r.now.A != 0 }

// checkUse reports whether both stampers can press one more disc.
func (r *running) checkUse() api.Errno {
	if r.usedUp(r.now.A) || r.usedUp(r.now.B) {
		return api.ErrOld
	}
	return api.OK
}

func (r *running) usedUp(stamper int64) bool {
	return int64(len(r.pressedWith(stamper))) >= r.machine.Life
}

// pressedWith returns the serial numbers of the discs of a stamper.
func (r *running) pressedWith(stamper int64) []int64 {
	var l []int64
	for _, d := range r.discs {
		if d.A == stamper || d.B == stamper {
			l = append(l, d.Serial)
		}
	}
	return l
}
