package sleeve_test

import (
	"math/rand"
	"slices"
	"testing"

	"deadwax/api"
	"deadwax/sleeve"
)

// order is what is asked of all functions.
type order struct {
	f []int
	job
	gang   []int
	panels []api.Panel
}

func someOrder(r *rand.Rand) order {
	folds := foldLists()
	j := someJob(r, 1+r.Intn(5))
	all := gangs(len(j.copies))
	return order{folds[r.Intn(len(folds))], j, all[r.Intn(len(all))], somePanels(r, 1+r.Intn(4))}
}

func (o order) copied() order {
	return order{slices.Clone(o.f), job{slices.Clone(o.copies), o.slots, o.plate}, slices.Clone(o.gang), slices.Clone(o.panels)}
}

func (o order) equal(other order) bool {
	return slices.Equal(o.f, other.f) && slices.Equal(o.copies, other.copies) && slices.Equal(o.gang, other.gang) && slices.Equal(o.panels, other.panels)
}

// answer is what all functions return.
type answer struct {
	leaves       []api.Leaf
	places       []int64
	best         []int
	flat, folded []api.Patch
	rest         [10]int64
	pocket       api.Patch
}

func (o order) answer() (a answer) {
	var e [9]api.Errno
	var n, layers int
	a.leaves, e[0] = sleeve.Pages(o.f)
	n, e[1] = sleeve.Page(o.f, 1, 1, true)
	a.rest[0], a.places, e[2] = sleeve.Run(o.copies, o.slots)
	a.rest[1], e[3] = sleeve.Cost(o.copies, o.slots, o.plate, o.gang)
	a.best, a.rest[2], e[4] = sleeve.Gang(o.copies, o.slots, o.plate)
	a.flat, e[5] = sleeve.Flat(o.panels)
	a.folded, e[6] = sleeve.Folded(o.panels)
	layers, e[7] = sleeve.Layers(o.panels, 0, 0)
	a.pocket, e[8] = sleeve.Pocket(o.panels, 0, len(o.panels)-1)
	a.rest[3], a.rest[4] = int64(n), int64(layers)
	for _, x := range e {
		a.rest[5] = a.rest[5]*30 + int64(x)
	}
	a.rest[6] = int64(sleeve.CheckFolds(o.f))
	a.rest[7] = int64(sleeve.CheckCopies(o.copies, o.slots, o.plate))
	a.rest[8] = int64(sleeve.CheckNet(o.panels))
	return a
}

func (a answer) equal(b answer) bool {
	return slices.Equal(a.leaves, b.leaves) && slices.Equal(a.places, b.places) && slices.Equal(a.best, b.best) &&
		slices.Equal(a.flat, b.flat) && slices.Equal(a.folded, b.folded) && a.rest == b.rest && a.pocket == b.pocket
}

// spoil changes all memory of results.
func (a answer) spoil() {
	clear(a.leaves[:cap(a.leaves)])
	clear(a.places[:cap(a.places)])
	clear(a.best[:cap(a.best)])
	clear(a.flat[:cap(a.flat)])
	clear(a.folded[:cap(a.folded)])
}

// R5: results share no memory with arguments or each other, and no argument is changed. R10: what was asked between two equal calls makes no difference.
func TestAgain(t *testing.T) {
	r := rand.New(rand.NewSource(10))
	var orders []order
	var answers []answer
	for range 500 {
		o := someOrder(r)
		orders = append(orders, o)
		answers = append(answers, o.answer())
	}
	for i, o := range slices.Backward(orders) {
		before := o.copied()
		a := o.answer()
		if !a.equal(answers[i]) {
			t.Fatalf("%v: %v, then %v", o, answers[i], a)
		}
		a.spoil()
		if !o.answer().equal(answers[i]) || !o.equal(before) {
			t.Fatalf("%v: %v, and after a change of results another one", o, answers[i])
		}
	}
}

// R5: what lies behind a list is not changed.
func TestSpareMemory(t *testing.T) {
	r := rand.New(rand.NewSource(5))
	for range 500 {
		o := someOrder(r)
		before := o.copied()
		for n := range 6 {
			part := o
			part.f, part.gang = o.f[:min(n, len(o.f))], o.gang[:min(n, len(o.gang))]
			part.copies, part.panels = o.copies[:min(n, len(o.copies))], o.panels[:min(n, len(o.panels))]
			part.answer()
		}
		if !o.equal(before) {
			t.Fatalf("%v was changed to %v", before, o)
		}
	}
}

// R3: empty lists are as nil ones.
func TestEmptyLists(t *testing.T) {
	empty := order{[]int{}, job{[]int64{}, 1, 5}, []int{}, []api.Panel{}}
	none := order{job: job{slots: 1, plate: 5}}
	if a := empty.answer(); !a.equal(none.answer()) {
		t.Errorf("%v, not %v", a, none.answer())
	}
	if n, e := sleeve.Cost([]int64{}, 1, 5, nil); n != 0 || e != api.OK {
		t.Errorf("Cost of nothing: %d, %d", n, e)
	}
	if gang, n, e := sleeve.Gang([]int64{}, 1, 5); len(gang) != 0 || n != 0 || e != api.OK {
		t.Errorf("Gang of nothing: %v, %d, %d", gang, n, e)
	}
	if n, l, e := sleeve.Run([]int64{}, 1); n != 0 || len(l) != 0 || e != api.OK {
		t.Errorf("Run of nothing: %d, %v, %d", n, l, e)
	}
}
