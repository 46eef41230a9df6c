package listen

import (
	"cmp"
	"slices"
)

// set is some of the elements of a list that increases strictly.
type set[E cmp.Ordered] struct {
	of []E
	in []bool // for each element of the list
}

// setWhere returns the set of the elements at those indexes of a list that are wanted.
func setWhere[E cmp.Ordered](of []E, wanted func(i int) bool) set[E] {
	s := set[E]{of, make([]bool, len(of))}
	for i := range of {
		s.in[i] = wanted(i)
	}
	return s
}

func (s set[E]) has(e E) bool {
	i, found := slices.BinarySearch(s.of, e)
	return found && s.in[i]
}

// differs reports whether another set of the same list has other elements.
func (s set[E]) differs(other set[E]) bool { return !slices.Equal(s.in, other.in) }

// removeBefore takes the elements before one out of a set.
func (s set[E]) removeBefore(e E) {
	i, _ := slices.BinarySearch(s.of, e)
	clear(s.in[:i])
}

func (s set[E]) list() []E {
	var l []E
	for i, in := range s.in {
		if in {
			l = append(l, s.of[i])
		}
	}
	return l
}
