package listen

import (
	"iter"

	"deadwax/api"
)

// alone is the plate of a cause that is not at a plate, but on a disc alone.
const alone = -1

// line is the line of a stamper, by the kinds of its plates.
type line [api.PlateStamper + 1]int

func lineOf(p []api.Plate, stamper int) line {
	var l line
	for plate := stamper; plate >= 0; plate = p[plate].Parent {
		l[p[plate].Kind] = plate
	}
	return l
}

// face is a side of all discs: their serial numbers, and the lines of their stampers on this side.
type face struct {
	plates  []api.Plate
	serials []int64
	lines   []line
}

func faceOf(p []api.Plate, discs []api.Disc, side int) face {
	f := face{plates: p}
	for _, d := range discs {
		stampers := [...]int64{d.A, d.B}
		f.serials = append(f.serials, d.Serial)
		f.lines = append(f.lines, lineOf(p, int(stampers[side])-1))
	}
	return f
}

// where returns the discs with those lines that are wanted.
func (f face) where(wanted func(line) bool) set[int64] {
	return setWhere(f.serials, func(i int) bool { return wanted(f.lines[i]) })
}

// pressedWith returns the discs of a stamper.
func (f face) pressedWith(stamper int) set[int64] {
	return f.where(func(l line) bool { return l[api.PlateStamper] == stamper })
}

// grownOn returns the numbers of the plates that were grown on a plate.
func (f face) grownOn(plate int) []int64 {
	var l []int64
	for i, p := range f.plates {
		if p.Parent == plate {
			l = append(l, int64(i))
		}
	}
	return l
}

// firsts returns from where on there can be a defect of a plate, or of a disc alone.
func (f face) firsts(plate int) []int64 {
	switch {
	case plate == alone:
		return f.serials
	case f.plates[plate].Kind == api.PlateStamper:
		return f.pressedWith(plate).list()
	}
	return f.grownOn(plate)
}

// suspects yields all plates, and then what is for discs alone.
func (f face) suspects() iter.Seq[int] {
	return func(yield func(int) bool) {
		for plate := range f.plates {
			if !yield(plate) {
				return
			}
		}
		yield(alone)
	}
}

// causes yields all causes, in order.
func (f face) causes() iter.Seq[api.Cause] {
	return func(yield func(api.Cause) bool) {
		for plate := range f.suspects() {
			for _, from := range f.firsts(plate) {
				if !yield(api.Cause{Plate: plate, From: from}) {
					return
				}
			}
		}
	}
}

func (f face) isCause(c api.Cause) bool {
	for cause := range f.causes() {
		if cause == c {
			return true
		}
	}
	return false
}

// having returns the discs that have a cause.
func (f face) having(c api.Cause) set[int64] {
	if c.Plate == alone {
		return setWhere(f.serials, func(i int) bool { return f.serials[i] == c.From })
	}
	kind := f.plates[c.Plate].Kind
	if kind == api.PlateStamper {
		discs := f.pressedWith(c.Plate)
		discs.removeBefore(c.From)
		return discs
	}
	return f.where(func(l line) bool { return l[kind] == c.Plate && int64(l[kind+1]) >= c.From })
}
