package groove

import (
	"iter"

	"deadwax/api"
)

// A circle is nearly circle / radius times as long as its radius.
const (
	circle = 710
	radius = 113
)

// place is a point of a groove, by its index, with its neighbours.
type place struct {
	groove []api.Point
	index  int
}

// places yields all points of a groove, each with its neighbours.
func places(l []api.Point) iter.Seq[place] {
	return func(yield func(place) bool) {
		for i := range l {
			if !yield(place{l, i}) {
				return
			}
		}
	}
}

func (p place) width() int64 { return p.groove[p.index].Out - p.groove[p.index].In }

// change returns by how much an edge differs at most from where it was before: 0, which breaks no rule, at the first point.
func (p place) change() int64 {
	if p.index == 0 {
		return 0
	}
	before, here := p.groove[p.index-1], p.groove[p.index]
	return amount(here.In-before.In, here.Out-before.Out)
}

// bend returns the second difference of an edge at most: 0, which breaks no rule, at the first and the last point.
func (p place) bend() int64 {
	if p.index == 0 || p.index == len(p.groove)-1 {
		return 0
	}
	before, here, after := p.groove[p.index-1], p.groove[p.index], p.groove[p.index+1]
	return amount(before.In+after.In-2*here.In, before.Out+after.Out-2*here.Out)
}

// amount returns the greatest amount of numbers.
func amount(l ...int64) int64 {
	most := int64(0)
	for _, x := range l {
		most = max(most, x, -x)
	}
	return most
}

// spot is where on a disc a cutter cuts: at a radius of a turn.
type spot struct {
	cutter api.Cutter
	r, per int64
}

// arc returns the square of the arc. Its parts are just within 64 bits.
func (s spot) arc() int64 {
	return (circle * s.r) * (circle * s.r) / ((radius * s.per) * (radius * s.per))
}

func (s spot) thin(p place) bool { return p.width() < s.cutter.Thin }

func (s spot) wide(p place) bool { return p.width() > s.cutter.Wide }

func (s spot) steep(p place) bool {
	return 1000*radius*s.per*p.change() > circle*s.r*s.cutter.Slope
}

func (s spot) sudden(p place) bool { return p.bend() > s.cutter.Jerk }

func (s spot) bent(p place) bool { return p.bend()*s.cutter.Stylus > s.arc() }

// rules returns what breaks each rule; that with the number n is at n - 1.
func rules() [api.RuleBend]func(spot, place) bool {
	return [...]func(spot, place) bool{
		api.RuleThin - 1:  spot.thin,
		api.RuleWide - 1:  spot.wide,
		api.RuleSlope - 1: spot.steep,
		api.RuleJerk - 1:  spot.sudden,
		api.RuleBend - 1:  spot.bent,
	}
}

// broken returns the rule with the least number that a groove breaks at a place, 0 if it breaks none.
func (s spot) broken(p place) int {
	for i, breaks := range rules() {
		if breaks(s, p) {
			return i + 1
		}
	}
	return 0
}

// fault returns the fault of a groove, the rule 0 if it has none.
func (s spot) fault(l []api.Point) (int, int) {
	for p := range places(l) {
		if rule := s.broken(p); rule != 0 {
			return p.index, rule
		}
	}
	return 0, 0
}

func (s spot) faultless(l []api.Point) bool {
	_, rule := s.fault(l)
	return rule == 0
}
