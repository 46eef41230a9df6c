package groove

import (
	"cmp"

	"deadwax/api"
	"deadwax/take"
)

// steps is how many steps of a sample a gain is for.
const steps = 1000

// Wall returns the point of a sample. (P3.2)
func Wall(c api.Cutter, s api.Sample) (api.Point, api.Errno) {
	l, e := Cut(c, []api.Sample{s})
	if e != api.OK {
		return api.Point{}, e
	}
	return l[0], api.OK
}

// Cut returns the points of samples. (P3.2)
func Cut(c api.Cutter, s []api.Sample) ([]api.Point, api.Errno) {
	if e := cmp.Or(Check(c), take.CheckSamples(s)); e != api.OK {
		return nil, e
	}
	l := make([]api.Point, 0, len(s))
	for _, x := range s {
		l = append(l, api.Point{In: swing(c, x.R) - c.Half, Out: swing(c, x.L) + c.Half})
	}
	return l, api.OK
}

// swing returns how far a channel moves its edge. It rounds toward 0, as Go divides.
func swing(c api.Cutter, channel int64) int64 { return channel * c.Gain / steps }

// Back returns the sample of a point. (P3.3)
func Back(c api.Cutter, p api.Point) (api.Sample, api.Errno) {
	if e := cmp.Or(Check(c), checkEdges(p)); e != api.OK {
		return api.Sample{}, e
	}
	left, leftFound := channel(c, p.Out-c.Half)
	right, rightFound := channel(c, p.In+c.Half)
	if !leftFound || !rightFound {
		return api.Sample{}, api.ErrNone
	}
	return api.Sample{L: left, R: right}, api.OK
}

// channel returns the channel with the least amount that moves its edge so far.
func channel(c api.Cutter, far int64) (int64, bool) {
	if far < 0 {
		x, found := channel(c, -far)
		return -x, found
	}
	if c.Gain == 0 {
		return 0, far == 0
	}
	// The first channel that moves its edge so far may move it farther.
	x := (far*steps + c.Gain - 1) / c.Gain
	return x, x <= api.MaxSample && swing(c, x) == far
}
