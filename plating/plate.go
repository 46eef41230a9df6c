package plating

import (
	"iter"
	"maps"
	"slices"

	"deadwax/api"
)

// plate is what is told of a plate, and the numbers of the flaws that it bears.
type plate struct {
	api.Plate
	flaws map[int]bool
}

// origin is the plate on which a flaw was made, and where.
type origin struct{ plate, place int }

func lacquer(cut, area int64) plate {
	return plate{api.Plate{Kind: api.PlateLacquer, Parent: -1, Cut: cut, Area: area}, map[int]bool{}}
}

// child grows a plate on this one, whose number is given.
func (p *plate) child(number int, thick int64) plate {
	p.Grown++
	if p.Kind == api.PlateLacquer {
		p.Retired = true
	}
	return plate{api.Plate{Kind: p.Kind + 1, Parent: number, Cut: p.Cut, Area: p.Area, Thick: thick}, maps.Clone(p.flaws)}
}

// bears returns the flaws of a plate, in increasing order.
func (p *plate) bears() []int {
	l := make([]int, 0, len(p.flaws))
	for flaw := range p.flaws {
		l = append(l, flaw)
	}
	slices.Sort(l)
	return l
}

func (p plate) clone() plate {
	p.flaws = maps.Clone(p.flaws)
	return p
}

// line yields the plates from the lacquer of a plate to the plate itself.
func (s *Shop) line(number int) iter.Seq[int] {
	return func(yield func(int) bool) { s.descend(number, yield) }
}

// descend yields a line, and reports whether all of it was wanted.
func (s *Shop) descend(number int, yield func(int) bool) bool {
	parent := s.plates[number].Parent
	return (parent < 0 || s.descend(parent, yield)) && yield(number)
}

// under yields the plates that have a plate in their line.
func (s *Shop) under(root int) iter.Seq[plate] {
	return func(yield func(plate) bool) {
		for i, p := range s.plates {
			for number := range s.line(i) {
				if number == root && !yield(p) {
					return
				}
			}
		}
	}
}
