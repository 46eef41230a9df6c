package filter

import (
	"cmp"

	"deadwax/api"
)

// maxSide is the greatest amount of a difference of two channels.
const maxSide = 2 * api.MaxSample

// Split returns the middles and the sides of a programme. (P2.5)
func Split(p []api.Sample) ([]int64, []int64, api.Errno) {
	if e := checkProgramme(p); e != api.OK {
		return nil, nil, e
	}
	middle, side := split(p)
	return middle, side, api.OK
}

// Join returns the programme with these middles and sides. (P2.5)
func Join(middle, side []int64) ([]api.Sample, api.Errno) {
	if e := checkSides(middle, side); e != api.OK {
		return nil, e
	}
	return join(middle, side)
}

// Narrow returns a programme with filtered sides. (P2.6)
func Narrow(c api.Curve, p []api.Sample) ([]api.Sample, api.Errno) {
	return sided[applying](c, p)
}

// Widen undoes Narrow. (P2.6)
func Widen(c api.Curve, p []api.Sample) ([]api.Sample, api.Errno) {
	return sided[undoing](c, p)
}

// sided sends the sides of a programme through a curve, and leaves the middles.
func sided[D direction](c api.Curve, p []api.Sample) ([]api.Sample, api.Errno) {
	if e := cmp.Or(CheckCurve(c), checkProgramme(p)); e != api.OK {
		return nil, e
	}
	middle, side := split(p)
	changed, e := through([]step{running[D](c)}, side, maxSide)
	if e != api.OK {
		return nil, e
	}
	return join(middle, changed)
}

func split(p []api.Sample) (middle, side []int64) {
	for _, s := range p {
		d := s.L - s.R
		middle = append(middle, s.R+half(d))
		side = append(side, d)
	}
	return middle, side
}

// join returns ErrOver if a sample is beyond its limit.
func join(middle, side []int64) ([]api.Sample, api.Errno) {
	p := make([]api.Sample, 0, len(middle))
	for i, d := range side {
		r := middle[i] - half(d)
		s := api.Sample{L: r + d, R: r}
		if !validSample(s) {
			return nil, api.ErrOver
		}
		p = append(p, s)
	}
	return p, api.OK
}

func half(x int64) int64 { return quotient(x, 2) }
