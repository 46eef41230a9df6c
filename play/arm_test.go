package play_test

import (
	"math/rand"
	"testing"

	"deadwax/api"
	"deadwax/play"
)

// wantedJump follows the definition of the chapter.
func wantedJump(a api.Arm, l []api.Point) (int, int, api.Errno) {
	m := make([]int64, len(l))
	for i, p := range l {
		m[i] = p.In + p.Out
	}
	for i := 1; i+1 < len(l); i++ {
		off := m[i-1] + m[i+1] - 2*m[i] - a.Skate
		if off > a.Hold {
			return i, 1, api.OK
		}
		if -off > a.Hold {
			return i, -1, api.OK
		}
	}
	return 0, 0, api.ErrNone
}

// checkJump holds what Jump returns against a sample and a side, 0 for nowhere.
func checkJump(t *testing.T, name string, a api.Arm, l []api.Point, at, side int) {
	t.Helper()
	want := api.OK
	if side == 0 {
		want = api.ErrNone
	}
	if i, k, e := play.Jump(a, l); i != at || k != side || e != want {
		t.Errorf("%s: Jump of %v: %d, %d, %d, not %d, %d, %d", name, a, i, k, e, at, side, want)
	}
}

func checkBalance(t *testing.T, name string, l []api.Point, want api.Arm) {
	t.Helper()
	if a, e := play.Balance(l); a != want || e != api.OK {
		t.Errorf("%s: %v, %d, not %v", name, a, e, want)
	}
}

// P6.6: the chapter's examples, and where an arm just holds.
func TestJump(t *testing.T) {
	checkJump(t, "the example", api.Arm{Hold: 20}, points(), 1, 1)
	checkJump(t, "the example", api.Arm{Hold: 30, Skate: 60}, points(), 1, -1)
	checkJump(t, "the example", api.Arm{Hold: 25}, points(), 0, 0)
	checkJump(t, "just too weak", api.Arm{Hold: 24}, points(), 1, 1)
	checkJump(t, "just pulled enough", api.Arm{Hold: 24, Skate: 1}, points(), 0, 0)
	checkJump(t, "just not too much", api.Arm{Hold: 24, Skate: 49}, points(), 0, 0)
	checkJump(t, "just too much", api.Arm{Hold: 24, Skate: 50}, points(), 1, -1)
	checkJump(t, "no hold", api.Arm{Skate: 25}, points(), 0, 0)
	checkJump(t, "no points", api.Arm{}, nil, 0, 0)
	checkJump(t, "two points", api.Arm{}, groove(0, 0, 9, 9), 0, 0)
	checkJump(t, "two points and a pull", api.Arm{Skate: api.MaxForce}, groove(0, 0, 9, 9), 0, 0)
	checkJump(t, "a straight groove and a pull", api.Arm{Skate: 1}, groove(0, 0, 9, 9, 18, 18), 1, -1)
	checkJump(t, "a straight groove and a push", api.Arm{Skate: -1}, groove(0, 0, 9, 9, 18, 18), 1, 1)
	// the bends are 10, -20 and 25
	l := groove(0, 0, 0, 0, 0, 10, 0, 0, 10, 5)
	checkJump(t, "the first one", api.Arm{Hold: 9}, l, 1, 1)
	checkJump(t, "the second one", api.Arm{Hold: 10}, l, 2, -1)
	checkJump(t, "the third one", api.Arm{Hold: 20}, l, 3, 1)
	checkJump(t, "none", api.Arm{Hold: 25}, l, 0, 0)
	checkJump(t, "with a pull", api.Arm{Hold: 24, Skate: 3}, l, 0, 0)
	// edges as far out as they may be
	far := groove(-api.MaxEdge, -api.MaxEdge, api.MaxEdge, api.MaxEdge, -api.MaxEdge, -api.MaxEdge)
	checkJump(t, "the greatest bend", api.Arm{Hold: 8*api.MaxEdge - 1}, far, 1, -1)
	checkJump(t, "just held", api.Arm{Hold: 8 * api.MaxEdge}, far, 0, 0)
	checkJump(t, "the greatest forces", api.Arm{Hold: api.MaxForce, Skate: api.MaxForce}, far, 1, -1)
	checkJump(t, "the greatest hold", api.Arm{Hold: api.MaxForce, Skate: -api.MaxForce}, far, 0, 0)
}

// P6.6: the error of the arm comes before those of the groove.
func TestErrorsOfJump(t *testing.T) {
	var wrong []api.Arm
	for _, x := range beyond(0, api.MaxForce) {
		wrong = append(wrong, api.Arm{Hold: x})
	}
	for _, x := range beyond(-api.MaxForce, api.MaxForce) {
		wrong = append(wrong, api.Arm{Hold: api.MaxForce, Skate: x}, api.Arm{Hold: x, Skate: x})
	}
	for _, a := range wrong {
		for _, l := range [][]api.Point{nil, points(), tooManyPoints(), farPoints()} {
			if i, k, e := play.Jump(a, l); i != 0 || k != 0 || e != api.ErrArg {
				t.Errorf("Jump of %v: %d, %d, %d", a, i, k, e)
			}
		}
	}
}

// P6.6: the chapter's example, and few points.
func TestBalance(t *testing.T) {
	checkBalance(t, "the example", points(), api.Arm{Skate: 25})
	checkBalance(t, "no points", nil, api.Arm{})
	checkBalance(t, "one point", points()[:1], api.Arm{})
	checkBalance(t, "two points", points()[:2], api.Arm{})
	checkBalance(t, "a straight groove", groove(0, 0, 9, 9, 18, 18), api.Arm{})
	// the bends are 10 and -20, then 25
	l := groove(0, 0, 0, 0, 0, 10, 0, 0, 10, 5)
	checkBalance(t, "an even sum", l[:4], api.Arm{Hold: 15, Skate: -5})
	checkBalance(t, "an odd sum", l, api.Arm{Hold: 23, Skate: 2})
	checkBalance(t, "an odd sum below 0", groove(0, 0, 0, 0, -10, 0, 0, 0, -10, -5), api.Arm{Hold: 23, Skate: -3})
	checkBalance(t, "both below 0", groove(0, 0, 0, 5, 0, 0, 0, -8), api.Arm{Hold: 4, Skate: -7})
	m := int64(api.MaxEdge)
	checkBalance(t, "the greatest bends", groove(-m, -m, m, m, -m, -m, m, m), api.Arm{Hold: 8 * m})
}

// P6.6, P6.14: the best arm holds; none with a lesser Hold does, nor with a lesser Skate; one with a greater Hold does.
func TestBalanceByDefinition(t *testing.T) {
	r := rand.New(rand.NewSource(614))
	held := 0
	for range 3000 {
		l := make([]api.Point, 3+r.Intn(6))
		for i := range l {
			l[i] = api.Point{In: r.Int63n(7) - 3, Out: r.Int63n(7) - 3}
		}
		a, e := play.Balance(l)
		if e != api.OK {
			t.Fatalf("Balance of %v: %d", l, e)
		}
		checkJump(t, "the best arm", a, l, 0, 0)
		checkJump(t, "a greater hold", api.Arm{Hold: a.Hold + r.Int63n(9), Skate: a.Skate}, l, 0, 0)
		for hold := range a.Hold + 1 {
			for skate := int64(-60); skate <= 60 && (hold < a.Hold || skate < a.Skate); skate++ {
				if _, _, e := play.Jump(api.Arm{Hold: hold, Skate: skate}, l); e != api.OK {
					t.Fatalf("Balance of %v: %v, but %d and %d hold", l, a, hold, skate)
				}
			}
		}
		b := api.Arm{Hold: r.Int63n(30), Skate: r.Int63n(21) - 10}
		i, k, e := play.Jump(b, l)
		at, side, want := wantedJump(b, l)
		if i != at || k != side || e != want {
			t.Fatalf("Jump of %v in %v: %d, %d, %d, not %d, %d, %d", b, l, i, k, e, at, side, want)
		}
		if e == api.ErrNone {
			held++
		}
	}
	if held < 500 || held > 2500 {
		t.Errorf("%d arms hold", held)
	}
}

// P6.6, P6.14: of edges of any size.
func TestArmsByDefinitionInWildGrooves(t *testing.T) {
	r := rand.New(rand.NewSource(6141))
	for range 3000 {
		l := wild(r, r.Intn(9))
		b := api.Arm{Hold: upTo(r, 0, api.MaxForce), Skate: upTo(r, -api.MaxForce, api.MaxForce)}
		i, k, e := play.Jump(b, l)
		if at, side, want := wantedJump(b, l); i != at || k != side || e != want {
			t.Fatalf("Jump of %v in %v: %d, %d, %d, not %d, %d, %d", b, l, i, k, e, at, side, want)
		}
		a, e := play.Balance(l)
		if e != api.OK || a.Hold < 0 || a.Hold > api.MaxForce || max(a.Skate, -a.Skate) > api.MaxForce {
			t.Fatalf("Balance of %v: %v, %d", l, a, e)
		}
		checkJump(t, "the best arm", a, l, 0, 0)
		if len(l) < 3 || a.Hold == 0 {
			continue
		}
		for more := range int64(3) {
			if _, _, e := play.Jump(api.Arm{Hold: a.Hold - 1, Skate: a.Skate + more - 1}, l); e != api.OK {
				t.Fatalf("Balance of %v: %v, but a lesser hold does", l, a)
			}
		}
		if _, _, e := play.Jump(api.Arm{Hold: a.Hold, Skate: a.Skate - 1}, l); e != api.OK {
			t.Fatalf("Balance of %v: %v, but a lesser skate does", l, a)
		}
	}
}
