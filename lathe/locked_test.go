package lathe_test

import (
	"math/rand"
	"testing"

	"deadwax/api"
	"deadwax/lathe"
)

// locks follows the chapter's definition of a locked groove that is right.
func locks(b api.Blank, l []api.Point, r []int64, half, c int64) bool {
	for i := range l {
		last := i >= len(l)-int(b.Per)
		if last && c+half > r[i]+l[i].In-b.Land {
			return false
		}
	}
	return c+half <= b.Rim && c-half >= 0
}

// checkLocked holds what Locked returns against a radius, below 0 for none.
func checkLocked(t *testing.T, name string, b api.Blank, l []api.Point, r []int64, half, want int64) {
	t.Helper()
	wanted := api.OK
	if want < 0 {
		want, wanted = 0, api.ErrPlan
	}
	if c, e := lathe.Locked(b, l, r, half); c != want || e != wanted {
		t.Errorf("%s: %d, %d, not %d, %d", name, c, e, want, wanted)
	}
}

// P5.7: the chapter's example, and where it ends.
func TestLocked(t *testing.T) {
	checkLocked(t, "the example", blank(), points(), radii(), 20, 830)
	checkLocked(t, "half of the room", blank(), points(), radii(), 425, 425)
	checkLocked(t, "a unit too wide", blank(), points(), radii(), 426, -1)
	b := blank()
	one := []api.Point{{In: -20, Out: 20}}
	checkLocked(t, "one point", b, one, []int64{500}, 1, 469)
	checkLocked(t, "at the rim", b, one, []int64{1030}, 5, 995)
	checkLocked(t, "just at the rim", b, one, []int64{1031}, 5, 995)
	checkLocked(t, "beyond the rim", b, one, []int64{api.MaxPlace}, 5, 995)
	checkLocked(t, "at the middle", b, one, []int64{32}, 1, 1)
	checkLocked(t, "a unit too near to it", b, one, []int64{31}, 1, -1)
	checkLocked(t, "far beyond it", b, one, []int64{-api.MaxPlace}, 1, -1)
	checkLocked(t, "inside the core", b, one, []int64{80}, 10, 40)
	low := []int64{300, 100, 400, 350, 380}
	for per, want := range map[int64]int64{1: 345, 2: 315, 3: 315, 4: 65, 5: 65, 6: 65, api.MaxPer: 65} {
		b.Per = per
		checkLocked(t, "the last turn", b, points(), low, 5, want)
	}
	b = blank()
	b.Rim, b.Core = 1, 0
	checkLocked(t, "no room at all", b, one, []int64{100}, 1, -1)
	b.Rim = 2
	checkLocked(t, "just room", b, one, []int64{100}, 1, 1)
	b.Rim = 2 * api.MaxHalf
	checkLocked(t, "just room for the widest", b, []api.Point{{}}, []int64{api.MaxPlace}, api.MaxHalf, api.MaxHalf)
}

// P5.7: the errors come in their order.
func TestErrorsOfLocked(t *testing.T) {
	for _, half := range beyond(1, api.MaxHalf) {
		if c, e := lathe.Locked(blank(), points(), radii(), half); c != 0 || e != api.ErrRange {
			t.Errorf("the half %d: %d, %d", half, c, e)
		}
		if c, e := lathe.Locked(blank(), nil, nil, half); c != 0 || e != api.ErrRange {
			t.Errorf("the half %d without points: %d, %d", half, c, e)
		}
	}
	for _, half := range []int64{1, api.MaxHalf} {
		if c, e := lathe.Locked(blank(), nil, nil, half); c != 0 || e != api.ErrNone {
			t.Errorf("the half %d, no points: %d, %d", half, c, e)
		}
	}
	small := api.Blank{Per: 1}
	if c, e := lathe.Locked(small, nil, nil, 1); c != 0 || e != api.ErrNone {
		t.Errorf("no points, and no room: %d, %d", c, e)
	}
}

// P5.7, P5.14: behind cuts of all kinds.
func TestLockedByDefinition(t *testing.T) {
	r := rand.New(rand.NewSource(57))
	right, rim := 0, 0
	for range 20000 {
		b := someBlank(r)
		n := 1 + r.Intn(8)
		l, cut, half := someGroove(r, n), anyRadii(r, b, n), 1+r.Int63n(60)
		for i := range cut {
			cut[i] += r.Int63n(20)
		}
		c, e := lathe.Locked(b, l, cut, half)
		if e == api.ErrPlan {
			for x := -half; x <= b.Rim; x++ {
				if locks(b, l, cut, half, x) {
					t.Fatalf("%v, %v on %v with %d: %d is right", l, cut, b, half, x)
				}
			}
			continue
		}
		right++
		if e != api.OK || !locks(b, l, cut, half, c) || locks(b, l, cut, half, c+1) {
			t.Fatalf("%v, %v on %v with %d: %d, %d", l, cut, b, half, c, e)
		}
		if c+half == b.Rim {
			rim++
		}
	}
	if right < 2000 || right > 18000 || rim < 500 {
		t.Errorf("only %d locked grooves are right, %d of them at the rim", right, rim)
	}
}
