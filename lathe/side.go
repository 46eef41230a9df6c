package lathe

import (
	"iter"

	"deadwax/api"
)

// side is a blank with the groove that is cut on it.
type side struct {
	api.Blank
	points []api.Point
}

// none is where an edge begins or ends that speaks of one radius alone. It stands for the middle of the disc, whose radius is 0; so what an edge says has one form for all rules.
const none = -1

// edge is what a step says: the radius where it ends is at most the one where it begins, plus its weight.
type edge struct {
	api.Step
	from, to int
	weight   int64
}

// edge returns what a step says, and whether the rule is one, and says something of the sample.
func (s side) edge(x api.Step) (edge, bool) {
	i := x.At
	if i < 0 || i >= len(s.points) {
		return edge{}, false
	}
	switch turn := int(s.Per); {
	case x.Rule == api.CutRim:
		return edge{x, none, i, s.Rim - s.points[i].Out}, true
	case x.Rule == api.CutCore:
		return edge{x, i, none, s.points[i].In - s.Core}, true
	case x.Rule == api.CutSlow && i > 0:
		return edge{x, i - 1, i, -s.Slow}, true
	case x.Rule == api.CutFast && i > 0:
		return edge{x, i, i - 1, s.Fast}, true
	case x.Rule == api.CutLand && i >= turn:
		return edge{x, i - turn, i, s.points[i-turn].In - s.points[i].Out - s.Land}, true
	}
	return edge{}, false
}

// edgesAt yields what the rules say of a sample, in the order of their numbers.
func (s side) edgesAt(i int) iter.Seq[edge] {
	return func(yield func(edge) bool) {
		for rule := api.CutRim; rule <= api.CutLand; rule++ {
			e, ok := s.edge(api.Step{Rule: rule, At: i})
			if ok && !yield(e) {
				return
			}
		}
	}
}

// edges yields what the rules say of all samples, from the first one on.
func (s side) edges() iter.Seq[edge] {
	return func(yield func(edge) bool) {
		for i := range s.points {
			for e := range s.edgesAt(i) {
				if !yield(e) {
					return
				}
			}
		}
	}
}

// keptBy reports whether radii are as the edge says.
func (e edge) keptBy(r []int64) bool { return radius(r, e.to) <= radius(r, e.from)+e.weight }

func radius(r []int64, i int) int64 {
	if i == none {
		return 0
	}
	return r[i]
}

// proves reports whether steps are a proof that the groove does not fit. As a path from none to none passes no other none, it begins with the only CutRim and ends with the only CutCore.
func (s side) proves(p []api.Step) bool {
	if len(p) == 0 {
		return false
	}
	begin, _ := s.edge(p[0])
	at, sum := begin.from, int64(0)
	for i, x := range p {
		e, ok := s.edge(x)
		again := i > 0 && at == none
		if !ok || e.from != at || again {
			return false
		}
		at = e.to
		sum += e.weight
	}
	return at == begin.from && sum < 0
}

// land returns the land at a sample from the second turn on.
func (s side) land(r []int64, i int) int64 {
	before := i - int(s.Per)
	return r[before] + s.points[before].In - r[i] - s.points[i].Out
}
