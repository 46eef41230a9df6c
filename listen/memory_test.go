package listen_test

import (
	"math/rand"
	"slices"
	"testing"

	"deadwax/api"
	"deadwax/listen"
)

// question is a lot, a cause, and hearings.
type question struct {
	lot
	c api.Cause
	h []api.Hearing
}

func someQuestion(r *rand.Rand) question {
	l := someLot(r, 14, 12)
	causes := l.wanted()
	return question{l, causes[r.Intn(len(causes))].cause, someHearings(r, l, 3)}
}

func (q question) copied() question {
	return question{lot{slices.Clone(q.p), slices.Clone(q.d), q.side}, q.c, slices.Clone(q.h)}
}

func (q question) equal(other question) bool {
	return slices.Equal(q.p, other.p) && slices.Equal(q.d, other.d) && slices.Equal(q.h, other.h)
}

// R5: results share no memory with arguments or each other. R10: what was asked between two equal calls makes no difference.
func TestAgain(t *testing.T) {
	r := rand.New(rand.NewSource(10))
	var questions []question
	var answers []answer
	var having [][]int64
	for range 300 {
		q := someQuestion(r)
		questions = append(questions, q)
		answers = append(answers, q.answer(t, q.h...))
		having = append(having, q.has(t, q.c))
	}
	for i, q := range slices.Backward(questions) {
		before := q.copied()
		a, has := q.answer(t, q.h...), q.has(t, q.c)
		if !a.equal(answers[i]) || !slices.Equal(has, having[i]) {
			t.Fatalf("%v: %v and %v, then %v and %v", q, answers[i], having[i], a, has)
		}
		spoil(a, has)
		if again := q.answer(t, q.h...); !again.equal(answers[i]) || !slices.Equal(q.has(t, q.c), having[i]) || !q.equal(before) {
			t.Fatalf("%v: %v and %v, and after a change of results others", q, answers[i], having[i])
		}
	}
}

// spoil changes all memory of results.
func spoil(a answer, has []int64) {
	clear(a.causes[:cap(a.causes)])
	clear(a.suspects[:cap(a.suspects)])
	clear(a.certain[:cap(a.certain)])
	clear(a.possible[:cap(a.possible)])
	clear(has[:cap(has)])
}

// R5: no argument is changed, with spare memory behind it or without.
func TestArguments(t *testing.T) {
	r := rand.New(rand.NewSource(5))
	for range 300 {
		q := someQuestion(r)
		before := q.copied()
		for plates := range len(q.p) + 1 { // with fewer plates some of the calls have errors
			listen.CheckPlates(q.p[:plates])
			listen.CheckDiscs(q.p[:plates], q.d)
			listen.Has(q.p[:plates], q.d, q.side, q.c)
			listen.Causes(q.p[:plates], q.d, q.side, q.h)
		}
		for discs := range len(q.d) + 1 {
			part := lot{q.p, q.d[:discs], q.side}
			listen.Has(part.p, part.d, part.side, q.c)
			part.answer(t)
		}
		for heard := range len(q.h) + 1 {
			q.answer(t, q.h[:heard]...)
		}
		if !q.equal(before) {
			t.Fatalf("%v was changed to %v", before, q)
		}
	}
}

// R3: empty lists are as nil ones.
func TestEmptyLists(t *testing.T) {
	noPlates, noDiscs, noHearings := []api.Plate{}, []api.Disc{}, []api.Hearing{}
	if a := (lot{noPlates, noDiscs, 1}).answer(t, noHearings...); !a.equal(answer{e: api.ErrPlan}) {
		t.Errorf("without plates: %v", a)
	}
	if a := (lot{plates(), noDiscs, 0}).answer(t, noHearings...); !a.equal((lot{plates(), nil, 0}).answer(t)) {
		t.Errorf("without discs: %v", a)
	}
	if a := example().answer(t, noHearings...); !a.equal(example().answer(t)) {
		t.Errorf("without hearings: %v", a)
	}
}

// What else is told of plates and discs does not matter.
func TestWhatElseIsTold(t *testing.T) {
	r := rand.New(rand.NewSource(909))
	for range 200 {
		q := someQuestion(r)
		bare := q.copied()
		for i, p := range q.p {
			bare.p[i] = api.Plate{Kind: p.Kind, Parent: p.Parent}
		}
		for i, d := range q.d {
			bare.d[i] = api.Disc{Serial: d.Serial, A: d.A, B: d.B}
			if q.side == 0 {
				bare.d[i].B = d.A
			} else {
				bare.d[i].A = d.B
			}
		}
		if a := bare.answer(t, q.h...); !a.equal(q.answer(t, q.h...)) || !slices.Equal(bare.has(t, q.c), q.has(t, q.c)) {
			t.Fatalf("%v: %v, not %v", bare, a, q.answer(t, q.h...))
		}
	}
}
