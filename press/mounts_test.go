package press_test

import (
	"math/rand"
	"slices"
	"testing"

	"deadwax/api"
	"deadwax/press"
)

// P8.6: the chapter's example.
func TestMountsExample(t *testing.T) {
	l, e := press.Mounts([]int64{5, 3}, []int64{2, 9}, 7)
	if want := []api.Mount{{A: 0, B: 0, Many: 2}, {A: 0, B: 1, Many: 3}, {A: 1, B: 1, Many: 2}}; e != api.OK || !slices.Equal(l, want) {
		t.Errorf("Mounts: %v, %d", l, e)
	}
}

// wantedMounts presses one disc after the other, and reports whether it could.
func wantedMounts(a, b []int64, discs int64) ([]api.Mount, bool) {
	a, b = slices.Clone(a), slices.Clone(b)
	first := func(l []int64) int { return slices.IndexFunc(l, func(left int64) bool { return left > 0 }) }
	var l []api.Mount
	for range discs {
		i, j := first(a), first(b)
		if i < 0 || j < 0 {
			return nil, false
		}
		a[i]--
		b[j]--
		if n := len(l); n > 0 && l[n-1].A == i && l[n-1].B == j {
			l[n-1].Many++
		} else {
			l = append(l, api.Mount{A: i, B: j, Many: 1})
		}
	}
	return l, true
}

func someSet(r *rand.Rand) []int64 {
	l := make([]int64, r.Intn(6))
	for i := range l {
		l[i] = r.Int63n(5)
	}
	return l
}

// P8.6, P8.13: stampers in turn; no mount comes back.
func TestMounts(t *testing.T) {
	r := rand.New(rand.NewSource(86))
	seen := map[api.Errno]int{}
	for range 20000 {
		a, b, discs := someSet(r), someSet(r), r.Int63n(15)
		l, e := press.Mounts(a, b, discs)
		seen[e]++
		want, possible := wantedMounts(a, b, discs)
		if possible != (e == api.OK) || !possible && e != api.ErrPlan || !slices.Equal(l, want) {
			t.Fatalf("Mounts of %v and %v for %d: %v, %d, not %v", a, b, discs, l, e, want)
		}
		sum, onA, onB := int64(0), map[int]int64{}, map[int]int64{}
		for i, m := range l {
			sum += m.Many
			onA[m.A] += m.Many
			onB[m.B] += m.Many
			if m.Many < 1 || onA[m.A] > a[m.A] || onB[m.B] > b[m.B] {
				t.Fatalf("Mounts of %v and %v for %d: %v", a, b, discs, l)
			}
			if i > 0 && (m.A < l[i-1].A || m.B < l[i-1].B || m.A == l[i-1].A && m.B == l[i-1].B) {
				t.Fatalf("Mounts of %v and %v for %d: %v comes back", a, b, discs, m)
			}
		}
		if e == api.OK && sum != discs {
			t.Fatalf("Mounts of %v and %v for %d: %v press %d", a, b, discs, l, sum)
		}
	}
	if seen[api.OK] < 1000 || seen[api.ErrPlan] < 1000 {
		t.Errorf("seen: %v", seen)
	}
}

// P8.6: as many stampers, and as many discs of them, as there can be.
func TestMountsLimits(t *testing.T) {
	most := slices.Repeat([]int64{api.MaxLife}, api.MaxSets)
	const all = api.MaxSets * api.MaxLife
	l, e := press.Mounts(most, most, all)
	if e != api.OK || len(l) != api.MaxSets {
		t.Fatalf("Mounts of all: %v, %d", l, e)
	}
	for i, m := range l {
		if m != (api.Mount{A: i, B: i, Many: api.MaxLife}) {
			t.Errorf("the mount %d: %v", i, m)
		}
	}
	for _, discs := range []int64{all + 1, api.MaxNumber} {
		if l, e := press.Mounts(most, most, discs); len(l) != 0 || e != api.ErrPlan {
			t.Errorf("Mounts for %d: %v, %d", discs, l, e)
		}
	}
	for _, one := range [][2][]int64{{most, {9}}, {{9}, most}} {
		if l, e := press.Mounts(one[0], one[1], 9); e != api.OK || !slices.Equal(l, []api.Mount{{Many: 9}}) {
			t.Errorf("Mounts for all of one side: %v, %d", l, e)
		}
		if l, e := press.Mounts(one[0], one[1], 10); len(l) != 0 || e != api.ErrPlan {
			t.Errorf("Mounts for more than one side can press: %v, %d", l, e)
		}
	}
	for _, none := range [][]int64{nil, {}, {0}, {0, 0}, {3}} {
		if l, e := press.Mounts(none, none, 0); len(l) != 0 || e != api.OK {
			t.Errorf("Mounts of %v for nothing: %v, %d", none, l, e)
		}
	}
}

// P8.6: the errors come in their order.
func TestMountsErrors(t *testing.T) {
	many := slices.Repeat([]int64{-1}, api.MaxSets+1)
	few := []int64{1, 1}
	wrong := func(a, b []int64, discs int64, want api.Errno) {
		t.Helper()
		for _, l := range [][2][]int64{{a, b}, {b, a}} {
			if l, e := press.Mounts(l[0], l[1], discs); len(l) != 0 || e != want {
				t.Errorf("Mounts of %v and %v for %d: %v, %d", a, b, discs, l, e)
			}
		}
	}
	for _, discs := range append(beyond(0, api.MaxNumber), 0, 3) {
		wrong(many, few, discs, api.ErrMany)
		wrong(many, many, discs, api.ErrMany)
		wrong(many, many[:9], discs, api.ErrMany)
		for _, n := range beyond(0, api.MaxLife) {
			wrong([]int64{n}, few, discs, api.ErrArg)
			wrong([]int64{1, 1, 1, n}, few, discs, api.ErrArg)
			wrong([]int64{n, 1, 1}, nil, discs, api.ErrArg)
		}
	}
	for _, discs := range beyond(0, api.MaxNumber) {
		wrong(few, few, discs, api.ErrRange)
		wrong(nil, few, discs, api.ErrRange)
	}
	wrong(few, few, 3, api.ErrPlan)
	wrong(few, nil, 1, api.ErrPlan)
	wrong(few, []int64{1}, 2, api.ErrPlan)
}
