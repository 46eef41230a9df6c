package lathe_test

import (
	"math/rand"
	"reflect"
	"slices"
	"testing"

	"deadwax/api"
	"deadwax/lathe"
)

// R5: no argument is changed.
func TestArguments(t *testing.T) {
	l, r := points(), radii()
	p := []api.Step{{Rule: api.CutRim}, {Rule: api.CutLand, At: 2}, {Rule: api.CutLand, At: 4}, {Rule: api.CutCore, At: 4}}
	kept := slices.Clone(p)
	for _, fast := range []int64{39, 100} {
		b := blank()
		b.Fast = fast
		lathe.Outermost(b, l)
		lathe.CheckCut(b, l, r)
		lathe.Refuse(b, l)
		lathe.CheckRefusal(b, l, p)
		lathe.Land(b, l, r, 3)
		lathe.Tightest(b, l, r)
		lathe.Fits(b, l)
		lathe.Locked(b, l, r, 20)
	}
	if !slices.Equal(l, points()) || !slices.Equal(r, radii()) || !slices.Equal(p, kept) {
		t.Errorf("arguments were changed: %v, %v, %v", l, r, p)
	}
}

// answers are the results of all functions that look for something.
type answers struct {
	cut      []int64
	proof    []api.Step
	many     int
	i, rule  int
	at       int
	land     int64
	locked   int64
	failures [6]api.Errno
}

func ask(b api.Blank, l []api.Point, r []int64) answers {
	var a answers
	a.cut, a.failures[0] = lathe.Outermost(b, l)
	a.proof, a.failures[1] = lathe.Refuse(b, l)
	a.many, a.failures[2] = lathe.Fits(b, l)
	a.i, a.rule, a.failures[3] = lathe.CheckCut(b, l, r)
	a.at, a.land, a.failures[4] = lathe.Tightest(b, l, r)
	a.locked, a.failures[5] = lathe.Locked(b, l, r, 3)
	return a
}

// R5: results share no memory. R10: what was asked between two equal calls makes no difference.
func TestAgain(t *testing.T) {
	r := rand.New(rand.NewSource(10))
	type question struct {
		b api.Blank
		l []api.Point
		r []int64
	}
	var questions []question
	var first []answers
	for range 500 {
		b := someBlank(r)
		q := question{b, someGroove(r, 9), anyRadii(r, b, 9)}
		questions = append(questions, q)
		first = append(first, ask(q.b, q.l, q.r))
	}
	for i, q := range slices.Backward(questions) {
		a := ask(q.b, q.l, q.r)
		if !reflect.DeepEqual(a, first[i]) {
			t.Errorf("%v: %v, then %v", q, first[i], a)
		}
		clear(a.cut[:cap(a.cut)])
		clear(a.proof[:cap(a.proof)])
		if again := ask(q.b, q.l, q.r); !reflect.DeepEqual(again, first[i]) {
			t.Errorf("%v: %v, and after a change of results %v", q, first[i], again)
		}
	}
}
