package sleeve_test

import (
	"math"
	"math/rand"
	"slices"
	"testing"

	"deadwax/api"
	"deadwax/sleeve"
)

// P10.4, P10.5: the chapter's examples.
func TestNetExamples(t *testing.T) {
	l := example()
	want := []api.Patch{{X1: 310, Y1: 310}, {X0: 310, X1: 620, Y1: 310}, {X0: 310, Y0: 310, X1: 620, Y1: 330}}
	if p := flat(t, l); !slices.Equal(p, want) {
		t.Errorf("flat: %v", p)
	}
	want = []api.Patch{{X1: 310, Y1: 310}, {X1: 310, Y1: 310, Down: true}, {Y0: 290, X1: 310, Y1: 310}}
	if p := folded(t, l); !slices.Equal(p, want) {
		t.Errorf("folded: %v", p)
	}
	if p, e := sleeve.Pocket(l, 0, 1); p != (api.Patch{X1: 310, Y1: 310}) || e != api.OK {
		t.Errorf("the pocket: %v, %d", p, e)
	}
	if n := layers(t, l, 5, 295); n != 3 {
		t.Errorf("the layers at (5, 295): %d", n)
	}
	if n := layers(t, l, 5, 5); n != 2 {
		t.Errorf("the layers at (5, 5): %d", n)
	}
}

// P10.4: what any panels are, flat and folded, or why they are no net.
func TestNets(t *testing.T) {
	r := rand.New(rand.NewSource(104))
	seen := map[api.Errno]int{}
	for range 30000 {
		l := somePanels(r, 1+r.Intn(4))
		want := wantedCheck(l)
		if e := sleeve.CheckNet(l); e != want {
			t.Fatalf("CheckNet of %v: %d, not %d", l, e, want)
		}
		f, e := sleeve.Flat(l)
		if is := slices.Equal(f, wantedFlat(l)); e != want || want == api.OK && !is || want != api.OK && len(f) != 0 {
			t.Fatalf("Flat of %v: %v, %d, not %v, %d", l, f, e, wantedFlat(l), want)
		}
		f, e = sleeve.Folded(l)
		if is := slices.Equal(f, wantedFolded(l)); e != want || want == api.OK && !is || want != api.OK && len(f) != 0 {
			t.Fatalf("Folded of %v: %v, %d, not %v, %d", l, f, e, wantedFolded(l), want)
		}
		seen[want]++
	}
	if seen[api.OK] < 1000 || seen[api.ErrNone] < 1000 || seen[api.ErrRule] < 1000 {
		t.Errorf("so many of each error: %v", seen)
	}
}

// P10.4: nets of many panels.
func TestManyPanels(t *testing.T) {
	r := rand.New(rand.NewSource(1041))
	full := 0
	for range 300 {
		l := someNet(r, api.MaxPanels)
		if f := flat(t, l); !slices.Equal(f, wantedFlat(l)) {
			t.Fatalf("Flat of %v: %v", l, f)
		}
		if f := folded(t, l); !slices.Equal(f, wantedFolded(l)) {
			t.Fatalf("Folded of %v: %v", l, f)
		}
		if len(l) == api.MaxPanels {
			full++
		}
	}
	if full < 100 {
		t.Errorf("%d full nets", full)
	}
}

// stairs are panels of the greatest size, each on an edge of the one before it, as far aside as they can be.
func stairs(edge int, off int64) []api.Panel {
	l := []api.Panel{{On: -1, Wide: api.MaxPanel, High: api.MaxPanel}}
	for i := 1; i < api.MaxPanels; i++ {
		l = append(l, api.Panel{On: i - 1, Edge: edge, Off: off, Wide: api.MaxPanel, High: api.MaxPanel})
	}
	return l
}

// P10.4: the greatest nets.
func TestGreatNets(t *testing.T) {
	const most = api.MaxPanel
	for edge := range 4 {
		for _, off := range []int64{most - 1, 1 - most, 0, 1, -1} {
			l := stairs(edge, off)
			if f := flat(t, l); !slices.Equal(f, wantedFlat(l)) {
				t.Errorf("Flat of %v: %v", l, f)
			}
			if f := folded(t, l); !slices.Equal(f, wantedFolded(l)) {
				t.Errorf("Folded of %v: %v", l, f)
			}
		}
		for _, off := range []int64{most, -most} {
			if e := sleeve.CheckNet(stairs(edge, off)); e != api.ErrNone {
				t.Errorf("panels that touch with corners: %d", e)
			}
		}
	}
	last := folded(t, stairs(api.EdgeTop, most-1))[api.MaxPanels-1]
	if last != (api.Patch{X0: 11 * (most - 1), Y0: 0, X1: 11*(most-1) + most, Y1: most, Down: true}) {
		t.Errorf("the end of the stairs: %v", last)
	}
}

// P10.4: a panel has to share a piece of its hinge, a point is not enough.
func TestHinges(t *testing.T) {
	base := api.Panel{On: -1, Wide: 7, High: 5}
	for edge := range 4 {
		p := api.Panel{On: 0, Edge: edge, Wide: 3, High: 2}
		long, own := base.High, p.High
		if edge == api.EdgeTop || edge == api.EdgeFoot {
			long, own = base.Wide, p.Wide
		}
		for off := -own - 3; off <= long+3; off++ {
			p.Off = off
			want := api.ErrNone
			if off > -own && off < long {
				want = api.OK
			}
			if e := sleeve.CheckNet([]api.Panel{base, p}); e != want {
				t.Errorf("the edge %d, shifted by %d: %d, not %d", edge, off, e, want)
			}
		}
	}
}

// P10.4: panels may touch, but have no common area.
func TestCommonArea(t *testing.T) {
	base := api.Panel{On: -1, Wide: 4, High: 4}
	right := api.Panel{On: 0, Edge: api.EdgeRight, Off: 1, Wide: 4, High: 4} // from (4, 1) to (8, 5)
	for _, c := range []struct {
		third api.Panel
		e     api.Errno
	}{
		{api.Panel{On: 0, Edge: api.EdgeTop, Wide: 4, High: 4}, api.OK}, // they touch
		{api.Panel{On: 0, Edge: api.EdgeTop, Off: 1, Wide: 4, High: 4}, api.ErrRule},
		{api.Panel{On: 1, Edge: api.EdgeLeft, Off: 3, Wide: 4, High: 4}, api.OK}, // it fills the corner
		{api.Panel{On: 1, Edge: api.EdgeLeft, Off: 2, Wide: 1, High: 1}, api.ErrRule},
		{api.Panel{On: 0, Edge: api.EdgeRight, Off: 0, Wide: 9, High: 1}, api.OK}, // below the other one
		{api.Panel{On: 0, Edge: api.EdgeRight, Off: 0, Wide: 9, High: 2}, api.ErrRule},
		{api.Panel{On: 0, Edge: api.EdgeRight, Off: 2, Wide: 2, High: 2}, api.ErrRule},   // within the other one
		{api.Panel{On: 0, Edge: api.EdgeRight, Off: 1, Wide: 4, High: 4}, api.ErrRule},   // the same again
		{api.Panel{On: 0, Edge: api.EdgeFoot, Off: 3, Wide: 9, High: 1}, api.OK},         // its end is below nothing
		{api.Panel{On: 1, Edge: api.EdgeLeft, Off: -1, Wide: 2, High: 2}, api.ErrRule},   // back upon the base
		{api.Panel{On: 1, Edge: api.EdgeFoot, Off: -4, Wide: 8, High: 1}, api.ErrRule},   // partly upon the base
		{api.Panel{On: 1, Edge: api.EdgeFoot, Off: 0, Wide: 8, High: 9}, api.OK},         // beside the base
		{api.Panel{On: 1, Edge: api.EdgeTop, Off: -8, Wide: 12, High: 9}, api.OK},        // above all
		{api.Panel{On: 1, Edge: api.EdgeLeft, Off: -9, Wide: 20, High: 20}, api.ErrRule}, // all around the base
	} {
		if e := sleeve.CheckNet([]api.Panel{base, right, c.third}); e != c.e {
			t.Errorf("%v: %d, not %d", c.third, e, c.e)
		}
	}
	first := []api.Panel{base, right, {On: 0, Edge: api.EdgeRight, Off: 1, Wide: 4, High: 4}, {On: 2, Edge: api.EdgeTop, Off: 99, Wide: 1, High: 1}}
	if e := sleeve.CheckNet(first); e != api.ErrNone {
		t.Errorf("a panel without a piece of its hinge, after panels with a common area: %d", e)
	}
}

// P10.5, P10.10: the layers of all squares are those of the rectangles, and their sum is the area of all panels.
func TestLayers(t *testing.T) {
	r := rand.New(rand.NewSource(105))
	highest := 0
	for range 300 {
		l := someNet(r, 1+r.Intn(api.MaxPanels))
		want := map[square]int{}
		area := int64(0)
		f := wantedFolded(l)
		for i, p := range f {
			area += l[i].Wide * l[i].High
			for _, s := range squares(p) {
				want[s]++
			}
		}
		sum := int64(0)
		for _, s := range squares(around(f)) {
			n := layers(t, l, s.x, s.y)
			if n != want[s] {
				t.Fatalf("Layers of %v at %v: %d, not %d", l, s, n, want[s])
			}
			sum += int64(n)
			highest = max(highest, n)
		}
		if sum != area {
			t.Fatalf("Layers of %v: the sum is %d, not %d", l, sum, area)
		}
	}
	if highest < 5 {
		t.Errorf("no more than %d layers", highest)
	}
}

// P10.5: any x and y.
func TestLayersFarOff(t *testing.T) {
	for edge := range 4 {
		l := stairs(edge, 0)
		if n := layers(t, l, 0, 0); n != api.MaxPanels {
			t.Errorf("the layers at (0, 0): %d", n)
		}
		if n := layers(t, l, api.MaxPanel-1, api.MaxPanel-1); n != api.MaxPanels {
			t.Errorf("the layers in the corner: %d", n)
		}
		for _, far := range beyond64(0, api.MaxPanel-1) {
			for _, s := range []square{{far, 0}, {0, far}, {far, far}, {far, math.MaxInt64}, {math.MinInt64, far}} {
				if n := layers(t, l, s.x, s.y); n != 0 {
					t.Errorf("the layers at %v: %d", s, n)
				}
			}
		}
	}
}

// P10.5: pockets, or why there is none.
func TestPockets(t *testing.T) {
	r := rand.New(rand.NewSource(1051))
	pockets, none := 0, 0
	for range 1000 {
		l := someNet(r, 2+r.Intn(7))
		f := wantedFolded(l)
		for a := range l {
			for b := range l {
				p, e := sleeve.Pocket(l, a, b)
				if a == b {
					if p != (api.Patch{}) || e != api.ErrRange {
						t.Fatalf("Pocket of %v, %d, %d: %v, %d", l, a, b, p, e)
					}
					continue
				}
				in := squares(f[b])
				both := slices.DeleteFunc(squares(f[a]), func(s square) bool { return !slices.Contains(in, s) })
				if len(both) == 0 {
					none++
					if p != (api.Patch{}) || e != api.ErrNone {
						t.Fatalf("Pocket of %v, %d, %d: %v, %d", l, a, b, p, e)
					}
					continue
				}
				pockets++
				if e != api.OK || p.Down || !slices.Equal(squares(p), both) {
					t.Fatalf("Pocket of %v, %d, %d: %v, %d, not %v", l, a, b, p, e, both)
				}
			}
		}
	}
	if pockets < 1000 || none < 1000 {
		t.Errorf("%d pockets, and %d without", pockets, none)
	}
}

// P10.5: folded panels that only touch have no common area.
func TestPanelsThatTouch(t *testing.T) {
	// both flaps are folded onto the base, where they meet at x = 4, or at the point (4, 3)
	l := []api.Panel{{On: -1, Wide: 8, High: 6}, {On: 0, Edge: api.EdgeRight, Wide: 4, High: 3}, {On: 0, Edge: api.EdgeLeft, Wide: 4, High: 3}}
	if p, e := sleeve.Pocket(l, 1, 2); p != (api.Patch{}) || e != api.ErrNone {
		t.Errorf("panels with a common line: %v, %d", p, e)
	}
	l[2].Off = 3
	if p, e := sleeve.Pocket(l, 1, 2); p != (api.Patch{}) || e != api.ErrNone {
		t.Errorf("panels with a common point: %v, %d", p, e)
	}
	l[2].Off, l[2].Wide = 2, 5
	if p, e := sleeve.Pocket(l, 1, 2); p != (api.Patch{X0: 4, Y0: 2, X1: 5, Y1: 3}) || e != api.OK {
		t.Errorf("panels with a common square: %v, %d", p, e)
	}
}

// P10.5: no index of a panel.
func TestNoPanels(t *testing.T) {
	for n := 1; n <= len(example()); n++ {
		l := example()[:n]
		for _, a := range beyond(0, n-1) {
			for _, b := range []int{0, n - 1, a, -a} {
				if p, e := sleeve.Pocket(l, a, b); p != (api.Patch{}) || e != api.ErrRange {
					t.Errorf("Pocket of %d and %d: %v, %d", a, b, p, e)
				}
				if p, e := sleeve.Pocket(l, b, a); p != (api.Patch{}) || e != api.ErrRange {
					t.Errorf("Pocket of %d and %d: %v, %d", b, a, p, e)
				}
			}
		}
	}
}

// P10.10: a folded panel is as large as it was, and touches its hinge from the side of the panel on which it hangs.
func TestFoldedFlat(t *testing.T) {
	r := rand.New(rand.NewSource(1010))
	edges := map[int]int{}
	for range 500 {
		l := someNet(r, api.MaxPanels)
		f := folded(t, l)
		sideways, upwards := []bool{false}, []bool{false} // whether left and right, or top and foot of a panel have changed places
		for i, p := range l {
			if f[i].X1-f[i].X0 != p.Wide || f[i].Y1-f[i].Y0 != p.High {
				t.Fatalf("Folded of %v: the panel %d is %v", l, i, f[i])
			}
			if i == 0 {
				continue
			}
			across := p.Edge == api.EdgeRight || p.Edge == api.EdgeLeft
			sideways = append(sideways, sideways[p.On] != across)
			upwards = append(upwards, upwards[p.On] == across)
			touches := false
			edge := p.Edge
			if across && sideways[p.On] || !across && upwards[p.On] {
				edge = (edge + 2) % 4
			}
			switch on := f[p.On]; edge {
			case api.EdgeRight:
				touches = f[i].X1 == on.X1
			case api.EdgeTop:
				touches = f[i].Y1 == on.Y1
			case api.EdgeLeft:
				touches = f[i].X0 == on.X0
			case api.EdgeFoot:
				touches = f[i].Y0 == on.Y0
			}
			if !touches || f[i].Down == f[p.On].Down {
				t.Fatalf("Folded of %v: the panel %d is %v, the one on which it hangs %v", l, i, f[i], f[p.On])
			}
			edges[edge]++
		}
	}
	for edge := range 4 {
		if edges[edge] < 100 {
			t.Errorf("%d panels at the edge %d", edges[edge], edge)
		}
	}
}

// P10.11: a pocket lies in both panels, and each square of it has at least two layers.
func TestPocketsHaveLayers(t *testing.T) {
	r := rand.New(rand.NewSource(1011))
	pockets := 0
	for range 300 {
		l := someNet(r, 6)
		f := folded(t, l)
		for b := range l {
			for a := range b {
				p, e := sleeve.Pocket(l, a, b)
				if e != api.OK {
					continue
				}
				pockets++
				for _, of := range []api.Patch{f[a], f[b]} {
					if p.X0 < of.X0 || p.Y0 < of.Y0 || p.X1 > of.X1 || p.Y1 > of.Y1 {
						t.Fatalf("Pocket of %v, %d, %d: %v, not in %v", l, a, b, p, of)
					}
				}
				if wide, high := p.X1-p.X0, p.Y1-p.Y0; wide > min(l[a].Wide, l[b].Wide) || high > min(l[a].High, l[b].High) {
					t.Fatalf("Pocket of %v, %d, %d: %v is too large", l, a, b, p)
				}
				for _, s := range squares(p) {
					if n := layers(t, l, s.x, s.y); n < 2 {
						t.Fatalf("Pocket of %v, %d, %d: %v has %d layers", l, a, b, s, n)
					}
				}
				if other, e := sleeve.Pocket(l, b, a); other != p || e != api.OK {
					t.Fatalf("Pocket of %v, %d, %d: %v, %d, not %v", l, b, a, other, e, p)
				}
			}
		}
	}
	if pockets < 500 {
		t.Errorf("%d pockets", pockets)
	}
}

// wrongNet checks that all functions return an error for a net, before their own ones.
func wrongNet(t *testing.T, name string, l []api.Panel, want api.Errno) {
	t.Helper()
	if e := sleeve.CheckNet(l); e != want {
		t.Errorf("%s: CheckNet: %d, not %d", name, e, want)
	}
	if p, e := sleeve.Flat(l); len(p) != 0 || e != want {
		t.Errorf("%s: Flat: %v, %d, not %d", name, p, e, want)
	}
	if p, e := sleeve.Folded(l); len(p) != 0 || e != want {
		t.Errorf("%s: Folded: %v, %d, not %d", name, p, e, want)
	}
	for _, s := range []square{{0, 0}, {1, 1}, {-5, 9}} {
		if n, e := sleeve.Layers(l, s.x, s.y); n != 0 || e != want {
			t.Errorf("%s: Layers: %d, %d, not %d", name, n, e, want)
		}
	}
	for _, b := range []int{0, 1, 2, -1, 99} {
		if p, e := sleeve.Pocket(l, 0, b); p != (api.Patch{}) || e != want {
			t.Errorf("%s: Pocket: %v, %d, not %d", name, p, e, want)
		}
	}
}

// P10.4: how many panels there may be.
func TestNumberOfPanels(t *testing.T) {
	wrongNet(t, "nil", nil, api.ErrMany)
	wrongNet(t, "none", []api.Panel{}, api.ErrMany)
	many := append(stairs(api.EdgeTop, 0), api.Panel{On: 0, Edge: api.EdgeFoot, Wide: 1, High: 1})
	wrongNet(t, "one too many", many, api.ErrMany)
	many[3].Wide = 0
	wrongNet(t, "one too many, of which one is wrong", many, api.ErrMany)
	wrongNet(t, "a thousand", make([]api.Panel, 1000), api.ErrMany)
	if e := sleeve.CheckNet(stairs(api.EdgeTop, 0)); e != api.OK {
		t.Errorf("twelve: %d", e)
	}
}

// P10.4: each number of each panel has its bounds.
func TestNumbersOfPanels(t *testing.T) {
	for i := range example() {
		change := func(name string, change func(p *api.Panel)) {
			t.Helper()
			l := example()
			change(&l[i])
			wrongNet(t, name, l, api.ErrArg)
		}
		for _, n := range beyond64(1, api.MaxPanel) {
			change("wide", func(p *api.Panel) { p.Wide = n })
			change("high", func(p *api.Panel) { p.High = n })
		}
		on, edge, off := beyond(0, i-1), beyond(0, 3), beyond64(-api.MaxPanel, api.MaxPanel)
		if i == 0 {
			on, edge, off = append(beyond(-1, -1), 1, 2), append(beyond(0, 0), 2, 3), append(beyond64(0, 0), 5, -5)
		}
		for _, n := range on {
			change("on", func(p *api.Panel) { p.On = n })
		}
		for _, n := range edge {
			change("edge", func(p *api.Panel) { p.Edge = n })
		}
		for _, n := range off {
			change("off", func(p *api.Panel) { p.Off = n })
		}
	}
	wrongNet(t, "a later panel", []api.Panel{{On: -1, Wide: 2, High: 2}, {On: 2, Wide: 1, High: 1}, {On: 0, Edge: 1, Wide: 1, High: 1}}, api.ErrArg)
	wrongNet(t, "a second base", []api.Panel{{On: -1, Wide: 2, High: 2}, {On: -1, Wide: 1, High: 1}}, api.ErrArg)
	wrongNet(t, "no base", []api.Panel{{On: 0, Wide: 2, High: 2}}, api.ErrArg)
	for _, side := range []int64{1, api.MaxPanel} {
		l := []api.Panel{{On: -1, Wide: side, High: 1}, {On: 0, Edge: api.EdgeFoot, Wide: 1, High: side}}
		if e := sleeve.CheckNet(l); e != api.OK {
			t.Errorf("a side of %d: %d", side, e)
		}
	}
}

// P10.4: the first panel that is wrong decides; common areas come after all.
func TestFirstWrongPanel(t *testing.T) {
	base := api.Panel{On: -1, Wide: 9, High: 9}
	apart := api.Panel{On: 0, Edge: api.EdgeTop, Off: 9, Wide: 2, High: 2}
	bad := api.Panel{On: 0, Edge: 7, Wide: 2, High: 2}
	good := api.Panel{On: 0, Edge: api.EdgeLeft, Wide: 2, High: 2}
	both := api.Panel{On: 0, Edge: 7, Off: 99, Wide: 0, High: 2}
	for _, c := range []struct {
		l []api.Panel
		e api.Errno
	}{
		{[]api.Panel{base, apart, bad}, api.ErrNone},
		{[]api.Panel{base, bad, apart}, api.ErrArg},
		{[]api.Panel{base, good, apart, bad}, api.ErrNone},
		{[]api.Panel{base, good, bad, apart}, api.ErrArg},
		{[]api.Panel{base, both, apart}, api.ErrArg},
		{[]api.Panel{base, good, good, apart, bad}, api.ErrNone},
		{[]api.Panel{base, good, good, bad, apart}, api.ErrArg},
		{[]api.Panel{base, good, good, good}, api.ErrRule},
		{[]api.Panel{{On: -1, Wide: 9, High: 0}, apart}, api.ErrArg},
		{[]api.Panel{base, apart, {On: 1, Edge: api.EdgeTop, Wide: 1, High: 1}}, api.ErrNone},
	} {
		wrongNet(t, "panels that are wrong", c.l, c.e)
	}
}
