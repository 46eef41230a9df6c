package sleeve

import (
	"iter"

	"deadwax/api"
)

// crease is what a fold does to a sheet: how many rows and columns there were for each one that is left.
type crease struct{ rows, cols int }

var creases = [...]crease{
	api.FoldLeft: {rows: 1, cols: 2},
	api.FoldUp:   {rows: 2, cols: 1},
}

// spot is a place of a sheet after some folds: where it is in the grid that the sheet has then, and whether what lies there was turned over since, and upside down.
type spot struct {
	api.Leaf
	rows, cols int
}

// before returns the places before a fold of what lies on one place after it: of what was laid there, and of what was there.
func (s spot) before(c crease) (laid, there spot) {
	there = spot{s.Leaf, c.rows * s.rows, c.cols * s.cols}
	laid = there
	laid.Back = !s.Back
	if c.rows == 2 {
		laid.Row = laid.rows - 1 - s.Row
		laid.Turned = !s.Turned
	}
	if c.cols == 2 {
		laid.Col = laid.cols - 1 - s.Col
	}
	return laid, there
}

// unfold yields the upper sides of the cells that lie on a place after some folds, from the top down, and reports whether more are wanted.
func (s spot) unfold(f []int, yield func(api.Leaf) bool) bool {
	if len(f) == 0 {
		return yield(s.Leaf)
	}
	last := len(f) - 1
	upper, lower := s.before(creases[f[last]])
	if s.Back {
		upper, lower = lower, upper
	}
	return upper.unfold(f[:last], yield) && lower.unfold(f[:last], yield)
}

// stack yields the upper sides of the cells of a folded sheet, from the top down.
func stack(f []int) iter.Seq[api.Leaf] {
	return func(yield func(api.Leaf) bool) {
		spot{rows: 1, cols: 1}.unfold(f, yield)
	}
}

// pages yields where the pages of a folded sheet are.
func pages(f []int) iter.Seq[api.Leaf] {
	return func(yield func(api.Leaf) bool) {
		for upper := range stack(f) {
			lower := upper
			lower.Back = !upper.Back
			if !yield(upper) || !yield(lower) {
				return
			}
		}
	}
}
