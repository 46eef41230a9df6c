package groove_test

import (
	"math/rand"
	"slices"
	"testing"

	"deadwax/api"
	"deadwax/groove"
)

// R5: no argument is changed, and no result shares memory with another one.
func TestMemory(t *testing.T) {
	s := []api.Sample{{L: 100, R: -100}, {L: -30}, {R: 7}, {L: 100, R: 90}}
	kept := slices.Clone(s)
	a, b := cut(t, cutter(), s...), cut(t, cutter(), s...)
	points := slices.Clone(b)
	clear(a[:cap(a)])
	if !slices.Equal(b, points) {
		t.Errorf("a change of one groove changed another one: %v", b)
	}
	groove.Loudest(cutter(), s, 100000, 1000)
	if !slices.Equal(s, kept) {
		t.Errorf("the samples were changed: %v", s)
	}
	for name, f := range withPoints() {
		f(cutter(), b, 100000, 1000, 1)
		if !slices.Equal(b, points) {
			t.Errorf("%s changed the groove: %v", name, b)
		}
	}
}

// answers are the results of all functions.
type answers struct {
	index, rule, loudest    int
	arc, least, needs       int64
	back                    api.Sample
	fault, lest, need, loud api.Errno
}

func ask(c api.Cutter, s []api.Sample, l []api.Point, r, per int64) answers {
	var a answers
	a.index, a.rule, a.fault = groove.Fault(c, l, r, per)
	a.arc, _ = groove.Arc(r, per)
	a.least, a.lest = groove.Least(c, l, per)
	a.needs, a.need = groove.Needs(c, l, per, len(l)/2)
	a.loudest, a.loud = groove.Loudest(c, s, r, per)
	a.back, _ = groove.Back(c, l[0])
	return a
}

// R10: what was asked between two equal calls makes no difference.
func TestAgain(t *testing.T) {
	r := rand.New(rand.NewSource(10))
	type question struct {
		c      api.Cutter
		s      []api.Sample
		l      []api.Point
		r, per int64
	}
	var questions []question
	var first []answers
	for range 200 {
		q := question{mildCutter(r), programme(r, 3, 60), bumpy(r, 4, 10), r.Int63n(3000), 1 + r.Int63n(300)}
		questions = append(questions, q)
		first = append(first, ask(q.c, q.s, q.l, q.r, q.per))
	}
	for i, q := range slices.Backward(questions) {
		if a := ask(q.c, q.s, q.l, q.r, q.per); a != first[i] {
			t.Errorf("%v: %v, then %v", q, first[i], a)
		}
	}
}
