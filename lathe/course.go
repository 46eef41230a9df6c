package lathe

import (
	"math"
	"slices"

	"deadwax/api"
)

// course is the outermost cut of the first points of a side, and by which step each radius is held where it is; how many points fit; and a proof that the next one does not, if there is one.
type course struct {
	side
	radii []int64
	held  []api.Step
	fits  int
	proof []api.Step
}

// follow adds the points of a side one by one.
//
// The last sample on a circle of edges is left by CutFast, which goes back one sample at a time, and so through all samples down to the one from which the circle comes to its last one: that before it, by CutSlow, or that of the turn before, by CutLand. As Slow is at most Fast, only the latter can have a sum below 0. Where there are no such circles, a new sample moves those before it only by the edges that go straight back from it.
func follow(s side) course {
	c := course{side: s, fits: len(s.points)}
points:
	for k := range s.points {
		if c.circles(k) {
			c.fits, c.proof = k, c.circle(k)
			return c
		}
		c.add(k)
		for i := k; ; i-- {
			if core, _ := c.edge(api.Step{Rule: api.CutCore, At: i}); !core.keptBy(c.radii) {
				c.fits, c.proof = k, c.path(core)
				return c
			}
			back, ok := c.edge(api.Step{Rule: api.CutFast, At: i})
			if !ok || !c.lower(back) {
				continue points
			}
		}
	}
	return c
}

// circles reports whether the greatest pitch of a turn is too little for the land at a sample.
func (c *course) circles(k int) bool {
	land, ok := c.edge(api.Step{Rule: api.CutLand, At: k})
	return ok && land.weight+c.Per*c.Fast < 0
}

// circle returns the way from a sample's turn before to the sample, and back.
func (c *course) circle(k int) []api.Step {
	p := []api.Step{{Rule: api.CutLand, At: k}}
	for i := range int(c.Per) {
		p = append(p, api.Step{Rule: api.CutFast, At: k - i})
	}
	return p
}

// add puts the next sample as far out as the ones before it allow.
func (c *course) add(k int) {
	c.radii = append(c.radii, math.MaxInt64)
	c.held = append(c.held, api.Step{})
	for e := range c.edgesAt(k) {
		if e.to == k {
			c.lower(e)
		}
	}
}

// lower moves the end of an edge inwards to where the edge allows it, and reports whether it had to.
func (c *course) lower(e edge) bool {
	if e.keptBy(c.radii) {
		return false
	}
	c.radii[e.to] = radius(c.radii, e.from) + e.weight
	c.held[e.to] = e.Step
	return true
}

// path returns the steps by which the sample is held at which an edge begins, and the step of the edge.
func (c *course) path(last edge) []api.Step {
	p := []api.Step{last.Step}
	for e := last; e.from != none; {
		p = append(p, c.held[e.from])
		e, _ = c.edge(c.held[e.from])
	}
	slices.Reverse(p)
	return p
}
