package sleeve

import (
	"slices"

	"deadwax/api"
)

// lay returns the flat net, or the error of a net that is not valid.
func lay(l []api.Panel) (flat []api.Patch, e api.Errno) {
	defer func() {
		if wrong := recover(); wrong != nil {
			flat, e = nil, wrong.(api.Errno)
		}
	}()
	must(between(1, len(l), api.MaxPanels), api.ErrMany)
	for i, p := range l {
		must(validPanel(p, i), api.ErrArg)
		flat = append(flat, place(p, flat))
	}
	for i, p := range flat {
		for _, q := range flat[:i] {
			must(!hasArea(common(p, q)), api.ErrRule)
		}
	}
	return flat, api.OK
}

// must ends the check of a net with an error if something does not hold.
func must(holds bool, e api.Errno) {
	if !holds {
		panic(e)
	}
}

// place returns the flat rectangle of a panel, which hangs on one of those that have their places.
func place(p api.Panel, flat []api.Patch) api.Patch {
	if p.On == -1 {
		return api.Patch{X1: p.Wide, Y1: p.High}
	}
	on := flat[p.On]
	place := beside(on, p)
	piece := common(on, place) // as they only touch, it has no area, but a width or a height if it is longer than a point
	must(piece.X0 < piece.X1 || piece.Y0 < piece.Y1, api.ErrNone)
	return place
}

func beside(on api.Patch, p api.Panel) api.Patch {
	x, y := on.X0+p.Off, on.Y0+p.Off
	switch p.Edge {
	case api.EdgeRight:
		x = on.X1
	case api.EdgeTop:
		y = on.Y1
	case api.EdgeLeft:
		x = on.X0 - p.Wide
	case api.EdgeFoot:
		y = on.Y0 - p.High
	}
	return api.Patch{X0: x, Y0: y, X1: x + p.Wide, Y1: y + p.High}
}

func common(a, b api.Patch) api.Patch {
	return api.Patch{X0: max(a.X0, b.X0), Y0: max(a.Y0, b.Y0), X1: min(a.X1, b.X1), Y1: min(a.Y1, b.Y1)}
}

func hasArea(p api.Patch) bool { return p.X0 < p.X1 && p.Y0 < p.Y1 }

// upright is a hinge at an x, level one at a y.
type (
	upright int64
	level   int64
)

func (h upright) mirror(p api.Patch) api.Patch {
	x := 2 * int64(h)
	p.X0, p.X1, p.Down = x-p.X1, x-p.X0, !p.Down
	return p
}

func (h level) mirror(p api.Patch) api.Patch {
	y := 2 * int64(h)
	p.Y0, p.Y1, p.Down = y-p.Y1, y-p.Y0, !p.Down
	return p
}

// overHinge returns how a rectangle is mirrored at an edge of a flat panel.
func overHinge(on api.Patch, edge int) func(api.Patch) api.Patch {
	switch edge {
	case api.EdgeRight:
		return upright(on.X1).mirror
	case api.EdgeTop:
		return level(on.Y1).mirror
	case api.EdgeLeft:
		return upright(on.X0).mirror
	}
	return level(on.Y0).mirror
}

// fold returns the folded net: each panel is mirrored at its own hinge, and then at those between it and the base.
func fold(l []api.Panel, flat []api.Patch) []api.Patch {
	folded := slices.Clone(flat)
	for i := range folded {
		for panel := l[i]; panel.On != -1; panel = l[panel.On] {
			folded[i] = overHinge(flat[panel.On], panel.Edge)(folded[i])
		}
	}
	return folded
}
