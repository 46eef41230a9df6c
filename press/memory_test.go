package press_test

import (
	"maps"
	"math/rand"
	"reflect"
	"slices"
	"testing"

	"deadwax/api"
	"deadwax/press"
)

// R4: objects that are nil, or were made otherwise, are not valid.
func TestInvalidPresses(t *testing.T) {
	p := newPress(t, quick(5))
	do(t, p, mount(1, 2))
	do(t, p, cycle()...)
	assigned := *p
	replaced := newPress(t, quick(5))
	*replaced = *p
	for i, bad := range []*press.Press{nil, {}, new(press.Press), &assigned, replaced} {
		for _, a := range []api.Act{mount(1, 2), load(), shut(), valve(0), valve(9), wait(1), wait(0), open(), {}, {Kind: 7}} {
			if d, e := bad.Do(a); d != (api.Disc{}) || e != api.ErrNil {
				t.Errorf("%d: %v: %v, %d", i, a, d, e)
			}
		}
		if s, e := bad.State(); s != (api.Pressing{}) || e != api.ErrNil {
			t.Errorf("%d: State: %v, %d", i, s, e)
		}
		if len(bad.Discs()) != 0 || len(bad.Of(1)) != 0 || bad.Copy() != nil {
			t.Errorf("%d: %v, %v", i, bad.Discs(), bad.Of(1))
		}
	}
	if len(p.Discs()) != 1 || state(t, p).Time != 2 {
		t.Errorf("the press was changed: %v", state(t, p))
	}
}

// P8.2, P8.15: a copy does what the press would do, and neither changes the other one.
func TestCopy(t *testing.T) {
	r := rand.New(rand.NewSource(815))
	apart := 0
	for range 200 {
		p, w := ran(t, r, r.Intn(150))
		c := p.Copy()
		of := &wanted{m: w.m, s: w.s, discs: slices.Clone(w.discs), used: maps.Clone(w.used)}
		same(t, c, of)
		for range 60 {
			doSome(t, r, c, of)
			same(t, p, w)
		}
		for range 60 {
			doSome(t, r, p, w)
			same(t, c, of)
		}
		if len(w.discs) > 2 && len(of.discs) > 2 && !slices.Equal(w.discs, of.discs) {
			apart++
		}
	}
	if apart < 50 {
		t.Errorf("only %d copies pressed other discs", apart)
	}
}

// P8.15: a press and its copy have discs of their own, though they come from the same ones.
func TestDiscsOfCopies(t *testing.T) {
	p := newPress(t, quick(9))
	do(t, p, mount(1, 2))
	for range 5 {
		do(t, p, cycle()...)
	}
	c := p.Copy()
	do(t, p, mount(3, 4))
	do(t, c, mount(5, 6))
	do(t, p, cycle()...)
	do(t, c, cycle()...)
	if a, b := p.Discs()[5], c.Discs()[5]; a.A != 3 || b.A != 5 || len(p.Of(5)) != 0 || !slices.Equal(c.Of(5), []int64{6}) {
		t.Errorf("the last discs: %v, %v", a, b)
	}
	if len(c.Copy().Copy().Discs()) != 6 {
		t.Errorf("a copy of a copy: %v", c.Copy().Copy().Discs())
	}
}

// answers are the results of all functions that look for something.
type answers struct {
	state     api.Pressing
	discs     []api.Disc
	of        []int64
	way       []int
	starts    []int64
	mounts    []api.Mount
	centre    [3]int64
	failures  [5]api.Errno
	checked   int
	isCentred bool
}

// question is what functions are asked.
type question struct {
	p      *press.Press
	m      api.Machine
	h      house
	starts []int64
	a, b   []int64
	spots  [3]api.Spot
}

func someQuestion(t *testing.T, r *rand.Rand) question {
	p, w := ran(t, r, 60)
	h := house{1 + r.Intn(3), 1 + r.Intn(3), upTo(r, 1, 5), upTo(r, 1, 5)}
	return question{p, w.m, h, h.starts(t, r.Intn(8)), someSet(r), someSet(r), someSpots(r, 9)}
}

func ask(q question) answers {
	var a answers
	a.state, _ = q.p.State()
	a.discs, a.of = q.p.Discs(), q.p.Of(3)
	a.way, a.failures[0] = press.Fastest(q.m, q.m.Cool)
	a.starts, a.failures[1] = press.Starts(q.h.presses, q.h.boiler, q.h.steam, q.h.rest, 9)
	a.checked, a.failures[2] = q.h.check(q.starts)
	a.mounts, a.failures[3] = press.Mounts(q.a, q.b, 4)
	l := q.spots
	a.centre[0], a.centre[1], a.centre[2], a.failures[4] = press.Centre(l[0], l[1], l[2])
	a.isCentred, _ = press.Centred(l[0], l[1], l[2], 3)
	return a
}

// spoil changes all memory of answers.
func (a answers) spoil() {
	clear(a.discs[:cap(a.discs)])
	clear(a.of[:cap(a.of)])
	clear(a.way[:cap(a.way)])
	clear(a.starts[:cap(a.starts)])
	clear(a.mounts[:cap(a.mounts)])
}

// R5: results share no memory with a press, or with each other. R10: what was asked between two equal calls makes no difference.
func TestAgain(t *testing.T) {
	r := rand.New(rand.NewSource(10))
	var questions []question
	var first []answers
	for range 200 {
		q := someQuestion(t, r)
		questions = append(questions, q)
		first = append(first, ask(q))
	}
	for i, q := range slices.Backward(questions) {
		a := ask(q)
		if !reflect.DeepEqual(a, first[i]) {
			t.Errorf("%v: %v, then %v", q, first[i], a)
		}
		a.spoil()
		if again := ask(q); !reflect.DeepEqual(again, first[i]) {
			t.Errorf("%v: %v, and after a change of results %v", q, first[i], again)
		}
	}
}

// R5: no argument is changed, with spare memory behind it or without.
func TestArguments(t *testing.T) {
	a, b, starts := []int64{5, 0, 3, 7}, []int64{2, 9, 7}, []int64{0, 3, 7, 10, 14}
	for n := range 3 {
		press.Mounts(a[:3], b[:2], int64(n)*4)
		press.Mounts(a, b, int64(n)*4)
		press.CheckStarts(2, 1, 3, 4, starts[:n])
		press.CheckStarts(1, 1, 3, 4, starts)
	}
	if !slices.Equal(a, []int64{5, 0, 3, 7}) || !slices.Equal(b, []int64{2, 9, 7}) || !slices.Equal(starts, []int64{0, 3, 7, 10, 14}) {
		t.Errorf("arguments were changed: %v, %v, %v", a, b, starts)
	}
}
