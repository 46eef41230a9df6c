package press

import (
	"slices"

	"deadwax/api"
)

// after returns the temperature after a tick.
func after(m api.Machine, temp int64, valve int) int64 {
	switch valve {
	case api.ValveSteam:
		return min(temp+m.Heat, m.Top)
	case api.ValveWater:
		return max(temp-m.Chill, m.Room)
	}
	return max(temp-m.Drift, m.Room)
}

// moment is what decides of a closed press which ways are good from there on: more hot ticks than Hold are not counted.
type moment struct{ temp, held int64 }

func (t moment) next(m api.Machine, valve int) moment {
	t.temp = after(m, t.temp, valve)
	if t.temp >= m.Melt {
		t.held = min(t.held+1, m.Hold)
	}
	return t
}

func (t moment) good(m api.Machine) bool { return t.held >= m.Hold && t.temp <= m.Cool }

// step is the moment before another one, and the valve between them.
type step struct {
	before moment
	valve  int
}

// Fastest returns the fastest way to a good disc. (P8.4)
func Fastest(m api.Machine, temp int64) ([]int, api.Errno) {
	if e := checkTemp(m, temp); e != api.OK {
		return nil, e
	}
	return fastest(m, moment{temp: temp}), api.OK
}

// fastest searches moments in the order of the ways that lead there, shorter ways first: the first way to a moment is the fastest one, and the ways that begin with others to it need not be looked at.
func fastest(m api.Machine, first moment) []int {
	steps := map[moment]step{first: {}}
	for queue := []moment{first}; len(queue) > 0; queue = queue[1:] {
		here := queue[0]
		if here.good(m) {
			return wayTo(here, first, steps)
		}
		for valve := api.ValveShut; valve <= api.ValveWater; valve++ {
			there := here.next(m, valve)
			if _, known := steps[there]; !known {
				steps[there] = step{here, valve}
				queue = append(queue, there)
			}
		}
	}
	return nil
}

// wayTo returns the valves from the first moment to another one.
func wayTo(here, first moment, steps map[moment]step) []int {
	var way []int
	for here != first {
		way = append(way, steps[here].valve)
		here = steps[here].before
	}
	slices.Reverse(way)
	return way
}
