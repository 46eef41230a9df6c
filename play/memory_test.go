package play_test

import (
	"math/rand"
	"reflect"
	"slices"
	"testing"

	"deadwax/api"
	"deadwax/play"
)

// answers are the results of all functions that look for something.
type answers struct {
	round       api.Tip
	read, swept []api.Point
	heard       []api.Heard
	at, because int
	greatest    int64
	left, right api.Extent
	arm         api.Arm
	jump, side  int
	drop        int
	failures    [9]api.Errno
}

func ask(x api.Tip, l []api.Point, radii []int64, n int64) answers {
	var a answers
	a.round, a.failures[0] = play.Round(n, 3, n%2 == 0)
	a.read, a.failures[1] = play.Read(x, l)
	a.swept, a.failures[2] = play.Sweep(x, l)
	a.heard, a.failures[3] = play.Hear(x, ideal(), l, n)
	a.at, a.because, a.failures[4] = play.Miss(x, l)
	a.greatest, a.failures[5] = play.Greatest(l, 3, n)
	a.arm, a.failures[6] = play.Balance(l)
	a.jump, a.side, a.failures[7] = play.Jump(api.Arm{Hold: 10 * n}, l)
	a.drop, a.failures[8] = play.Drop(l, radii, 2, 1, 40*n)
	a.left, a.right, _ = play.Channels(cutter(), api.Heard{In: api.Extent{Lo: -n}, Out: api.Extent{Hi: 100 + n}})
	return a
}

// R5: no argument is changed, with spare memory behind it or without.
func TestArguments(t *testing.T) {
	shape, l, radii := []int64{0, 2, 10, 7, 7}, append(points(), api.Point{In: 1, Out: 2}), []int64{1000, 990, 980, 5}
	for n := range int64(20) {
		ask(api.Tip{Shape: shape[:3]}, l[:3], radii[:3], n)
		play.CheckTip(api.Tip{Shape: shape[:3]})
		play.Hear(ideal(), api.Tip{Shape: shape[:3]}, l[:3], n)
	}
	if !slices.Equal(shape, []int64{0, 2, 10, 7, 7}) || !slices.Equal(l, append(points(), api.Point{In: 1, Out: 2})) || !slices.Equal(radii, []int64{1000, 990, 980, 5}) {
		t.Errorf("arguments were changed: %v, %v, %v", shape, l, radii)
	}
}

// R5: results share no memory. R10: what was asked between two equal calls makes no difference.
func TestAgain(t *testing.T) {
	r := rand.New(rand.NewSource(10))
	type question struct {
		x     api.Tip
		l     []api.Point
		radii []int64
		n     int64
	}
	var questions []question
	var first []answers
	for range 300 {
		q := question{someTip(r, 5), someGroove(r, 9), make([]int64, 9), r.Int63n(20)}
		for i := range q.radii {
			q.radii[i] = r.Int63n(500)
		}
		questions = append(questions, q)
		first = append(first, ask(q.x, q.l, q.radii, q.n))
	}
	for i, q := range slices.Backward(questions) {
		a := ask(q.x, q.l, q.radii, q.n)
		if !reflect.DeepEqual(a, first[i]) {
			t.Errorf("%v: %v, then %v", q, first[i], a)
		}
		clear(a.round.Shape[:cap(a.round.Shape)])
		clear(a.read[:cap(a.read)])
		clear(a.swept[:cap(a.swept)])
		clear(a.heard[:cap(a.heard)])
		if again := ask(q.x, q.l, q.radii, q.n); !reflect.DeepEqual(again, first[i]) {
			t.Errorf("%v: %v, and after a change of results %v", q, first[i], again)
		}
	}
}
