package sleeve_test

import (
	"math"
	"math/rand"
	"slices"
	"testing"

	"deadwax/api"
	"deadwax/sleeve"
)

const (
	left = api.FoldLeft
	up   = api.FoldUp
)

// foldLists are all that are valid.
func foldLists() [][]int {
	var all [][]int
	last := [][]int{nil}
	for range api.MaxFolds {
		var longer [][]int
		for _, f := range last {
			longer = append(longer, append(slices.Clone(f), left), append(slices.Clone(f), up))
		}
		all = append(all, longer...)
		last = longer
	}
	return all
}

// grid has for each place of a sheet the cells that lie there, from the top down, each as the leaf of its upper side.
type grid [][][]api.Leaf

func newGrid(rows, cols int) grid {
	g := make(grid, rows)
	for row := range g {
		g[row] = make([][]api.Leaf, cols)
	}
	return g
}

// openSheet follows the chapter's definition of the cells of an open sheet.
func openSheet(f []int) grid {
	rows, cols := 1, 1
	for _, x := range f {
		if x == left {
			cols *= 2
		} else {
			rows *= 2
		}
	}
	g := newGrid(rows, cols)
	for row := range rows {
		for col := range cols {
			g[row][col] = []api.Leaf{{Row: row, Col: col}}
		}
	}
	return g
}

// turnedOver is a stack that was turned over, by FoldUp or by FoldLeft.
func turnedOver(stack []api.Leaf, fold int) []api.Leaf {
	var over []api.Leaf
	for _, leaf := range slices.Backward(stack) {
		leaf.Back = !leaf.Back
		if fold == up {
			leaf.Turned = !leaf.Turned
		}
		over = append(over, leaf)
	}
	return over
}

// folded follows the chapter's definition of what a fold does.
func (g grid) folded(fold int) grid {
	if fold == left {
		half := len(g[0]) / 2
		h := newGrid(len(g), half)
		for row := range g {
			for col := range half {
				h[row][col] = append(turnedOver(g[row][2*half-1-col], fold), g[row][col]...)
			}
		}
		return h
	}
	half := len(g) / 2
	h := newGrid(half, len(g[0]))
	for row := range half {
		for col := range g[row] {
			h[row][col] = append(turnedOver(g[2*half-1-row][col], fold), g[row][col]...)
		}
	}
	return h
}

func wantedPages(f []int) []api.Leaf {
	g := openSheet(f)
	for _, x := range f {
		g = g.folded(x)
	}
	var l []api.Leaf
	for _, upper := range g[0][0] {
		lower := upper
		lower.Back = !upper.Back
		l = append(l, upper, lower)
	}
	return l
}

func pages(t *testing.T, f []int) []api.Leaf {
	t.Helper()
	l, e := sleeve.Pages(f)
	if e != api.OK {
		t.Fatalf("Pages of %v: %d", f, e)
	}
	return l
}

func page(t *testing.T, f []int, row, col int, back bool) int {
	t.Helper()
	n, e := sleeve.Page(f, row, col, back)
	if e != api.OK {
		t.Fatalf("Page of %v at %d, %d, %t: %d", f, row, col, back, e)
	}
	return n
}

// job is what is printed together.
type job struct {
	copies       []int64
	slots, plate int64
}

// someJob returns a job with few copies, so that they can be counted.
func someJob(r *rand.Rand, designs int) job {
	j := job{slots: 1 + r.Int63n(1+r.Int63n(16)), plate: r.Int63n(40)}
	if r.Intn(4) == 0 {
		j.plate = 0
	}
	for range designs {
		j.copies = append(j.copies, 1+r.Int63n(1+r.Int63n(60)))
	}
	return j
}

// greatJob returns a job with any numbers.
func greatJob(r *rand.Rand, designs int) job {
	j := job{slots: 1 + r.Int63n(api.MaxSlots), plate: r.Int63n(api.MaxPlate + 1)}
	for range designs {
		j.copies = append(j.copies, 1+r.Int63n(api.MaxCopies>>r.Intn(21)))
	}
	return j
}

func (j job) run(t *testing.T) (int64, []int64) {
	t.Helper()
	n, l, e := sleeve.Run(j.copies, j.slots)
	if e != api.OK {
		t.Fatalf("Run of %v: %d", j, e)
	}
	return n, l
}

func (j job) cost(t *testing.T, gang []int) int64 {
	t.Helper()
	n, e := sleeve.Cost(j.copies, j.slots, j.plate, gang)
	if e != api.OK {
		t.Fatalf("Cost of %v for %v: %d", gang, j, e)
	}
	return n
}

func (j job) gang(t *testing.T) ([]int, int64) {
	t.Helper()
	gang, n, e := sleeve.Gang(j.copies, j.slots, j.plate)
	if e != api.OK {
		t.Fatalf("Gang of %v: %d", j, e)
	}
	return gang, n
}

// needs follows the chapter's definition of the places that so many sheets need.
func (j job) needs(sheets int64) (l []int64, sum int64) {
	for _, n := range j.copies {
		places := int64(0)
		for places*sheets < n {
			places++
		}
		l = append(l, places)
		sum += places
	}
	return l, sum
}

// wantedRun tries all numbers of sheets, from the least one on.
func (j job) wantedRun() (int64, []int64, bool) {
	if int64(len(j.copies)) > j.slots {
		return 0, nil, false
	}
	if len(j.copies) == 0 {
		return 0, nil, true
	}
	for sheets := int64(1); ; sheets++ {
		if l, sum := j.needs(sheets); sum <= j.slots {
			return sheets, l, true
		}
	}
}

// wantedCost follows the chapter's definition of the cost of a gang; it is false if a plate has no run.
func (j job) wantedCost(gang []int) (int64, bool) {
	sum := int64(0)
	for plate := range gang {
		if !slices.Contains(gang, plate) {
			continue
		}
		part := job{slots: j.slots}
		for i, n := range j.copies {
			if gang[i] == plate {
				part.copies = append(part.copies, n)
			}
		}
		sheets, _, is := part.wantedRun()
		if !is {
			return 0, false
		}
		sum += sheets + j.plate
	}
	return sum, true
}

// wantedCostOrError is what Cost returns for any list of plates.
func (j job) wantedCostOrError(list []int) (int64, api.Errno) {
	if len(list) != len(j.copies) {
		return 0, api.ErrEqual
	}
	if !isGang(list) {
		return 0, api.ErrArg
	}
	cost, is := j.wantedCost(list)
	if !is {
		return 0, api.ErrLimit
	}
	return cost, api.OK
}

// isGang follows the chapter's definition.
func isGang(l []int) bool {
	for i, plate := range l {
		next := 0
		if i > 0 {
			next = slices.Max(l[:i]) + 1
		}
		if plate != next && !slices.Contains(l[:i], plate) {
			return false
		}
	}
	return true
}

// gangs are all of so many designs, in lexicographic order.
func gangs(designs int) [][]int {
	all := [][]int{nil}
	for range designs {
		var longer [][]int
		for _, l := range all {
			for plate := range designs {
				if x := append(slices.Clone(l), plate); isGang(x) {
					longer = append(longer, x)
				}
			}
		}
		all = longer
	}
	return all
}

// wantedGang tries all gangs.
func (j job) wantedGang(gangs [][]int) (best []int, least int64) {
	least = -1
	for _, g := range gangs {
		if n, is := j.wantedCost(g); is && (least < 0 || n < least) {
			best, least = g, n
		}
	}
	return best, least
}

// example is the net of the chapter's examples.
func example() []api.Panel {
	return []api.Panel{{On: -1, Wide: 310, High: 310}, {On: 0, Edge: api.EdgeRight, Wide: 310, High: 310}, {On: 1, Edge: api.EdgeTop, Wide: 310, High: 20}}
}

func flat(t *testing.T, l []api.Panel) []api.Patch {
	t.Helper()
	p, e := sleeve.Flat(l)
	if e != api.OK {
		t.Fatalf("Flat of %v: %d", l, e)
	}
	return p
}

func folded(t *testing.T, l []api.Panel) []api.Patch {
	t.Helper()
	p, e := sleeve.Folded(l)
	if e != api.OK {
		t.Fatalf("Folded of %v: %d", l, e)
	}
	return p
}

func layers(t *testing.T, l []api.Panel, x, y int64) int {
	t.Helper()
	n, e := sleeve.Layers(l, x, y)
	if e != api.OK {
		t.Fatalf("Layers of %v: %d", l, e)
	}
	return n
}

// wantedFlat follows the chapter's definition of a flat net.
func wantedFlat(l []api.Panel) []api.Patch {
	var flat []api.Patch
	for _, p := range l {
		var f api.Patch
		if p.On >= 0 {
			on := flat[p.On]
			switch p.Edge {
			case 0:
				f.X0, f.Y0 = on.X1, on.Y0+p.Off
			case 1:
				f.X0, f.Y0 = on.X0+p.Off, on.Y1
			case 2:
				f.X0, f.Y0 = on.X0-p.Wide, on.Y0+p.Off
			case 3:
				f.X0, f.Y0 = on.X0+p.Off, on.Y0-p.High
			}
		}
		f.X1, f.Y1 = f.X0+p.Wide, f.Y0+p.High
		flat = append(flat, f)
	}
	return flat
}

// motion says where the points of a flat panel come to lie: at MX * x + AX and MY * y + AY.
type motion struct{ mx, ax, my, ay int64 }

// wantedFolded follows the chapter's definition by what becomes of points: they are mirrored first at the own hinge of their panel, then moved with the panel on which it hangs.
func wantedFolded(l []api.Panel) []api.Patch {
	flat := wantedFlat(l)
	moves := []motion{{mx: 1, my: 1}}
	down := []bool{false}
	folded := flat[:1:1]
	for i, p := range l[1:] {
		m, on := moves[p.On], flat[p.On]
		switch p.Edge {
		case 0:
			m.mx, m.ax = -m.mx, m.mx*2*on.X1+m.ax
		case 1:
			m.my, m.ay = -m.my, m.my*2*on.Y1+m.ay
		case 2:
			m.mx, m.ax = -m.mx, m.mx*2*on.X0+m.ax
		case 3:
			m.my, m.ay = -m.my, m.my*2*on.Y0+m.ay
		}
		f := flat[i+1]
		x0, x1 := m.mx*f.X0+m.ax, m.mx*f.X1+m.ax
		y0, y1 := m.my*f.Y0+m.ay, m.my*f.Y1+m.ay
		moves = append(moves, m)
		down = append(down, !down[p.On])
		folded = append(folded, api.Patch{X0: min(x0, x1), Y0: min(y0, y1), X1: max(x0, x1), Y1: max(y0, y1), Down: down[i+1]})
	}
	return folded
}

type square struct{ x, y int64 }

func squares(p api.Patch) []square {
	var l []square
	for x := p.X0; x < p.X1; x++ {
		for y := p.Y0; y < p.Y1; y++ {
			l = append(l, square{x, y})
		}
	}
	return l
}

// sharesHinge counts the squares of a panel that lie beside one of the panel on which it hangs, over their hinge.
func sharesHinge(p api.Panel, flat, on api.Patch) bool {
	step := []square{{-1, 0}, {0, -1}, {1, 0}, {0, 1}}[p.Edge]
	for _, s := range squares(flat) {
		if slices.Contains(squares(on), square{s.x + step.x, s.y + step.y}) {
			return true
		}
	}
	return false
}

// wantedCheck follows the chapter's definition of a net with small panels, whose numbers are as they have to be.
func wantedCheck(l []api.Panel) api.Errno {
	flat := wantedFlat(l)
	for i, p := range l {
		if i > 0 && !sharesHinge(p, flat[i], flat[p.On]) {
			return api.ErrNone
		}
	}
	covered := map[square]bool{}
	for _, f := range flat {
		for _, s := range squares(f) {
			if covered[s] {
				return api.ErrRule
			}
			covered[s] = true
		}
	}
	return api.OK
}

// somePanels returns small panels; not all of them are nets.
func somePanels(r *rand.Rand, n int) []api.Panel {
	side := func() int64 { return 1 + r.Int63n(5) }
	l := []api.Panel{{On: -1, Wide: side(), High: side()}}
	for i := 1; i < n; i++ {
		p := api.Panel{On: r.Intn(i), Edge: r.Intn(4), Off: r.Int63n(5) - 2, Wide: side(), High: side()}
		if r.Intn(4) == 0 {
			p.Off *= 3
		}
		l = append(l, p)
	}
	return l
}

// someNet returns a net with at most so many small panels: those that would be wrong are left out.
func someNet(r *rand.Rand, n int) []api.Panel {
	l := somePanels(r, 1)
	for range 4 * n {
		if len(l) == n {
			break
		}
		p := somePanels(r, 2)[1]
		p.On = r.Intn(len(l))
		if longer := append(slices.Clone(l), p); wantedCheck(longer) == api.OK {
			l = longer
		}
	}
	return l
}

// around is what lies around all rectangles.
func around(l []api.Patch) api.Patch {
	a := l[0]
	for _, p := range l {
		a = api.Patch{X0: min(a.X0, p.X0), Y0: min(a.Y0, p.Y0), X1: max(a.X1, p.X1), Y1: max(a.Y1, p.Y1)}
	}
	return api.Patch{X0: a.X0 - 2, Y0: a.Y0 - 2, X1: a.X1 + 2, Y1: a.Y1 + 2}
}

// beyond are numbers outside of a range, some of which are in it if they are cut off.
func beyond(least, most int) []int {
	return []int{least - 1, most + 1, least - 1<<40, most + 1<<40, least - 1<<32, least + 1<<32, math.MinInt64, math.MinInt64 + 1, math.MaxInt64, math.MaxInt64 - 1}
}

func beyond64(least, most int64) []int64 {
	var l []int64
	for _, n := range beyond(int(least), int(most)) {
		l = append(l, int64(n))
	}
	return l
}
