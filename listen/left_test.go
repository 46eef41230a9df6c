package listen_test

import (
	"math"
	"math/rand"
	"slices"
	"testing"

	"deadwax/api"
	"deadwax/listen"
)

// answer is what the functions with hearings return.
type answer struct {
	causes            []api.Cause
	suspects          []int
	certain, possible []int64
	next              int64
	rest              int
	e                 api.Errno
}

func (a answer) equal(b answer) bool {
	return slices.Equal(a.causes, b.causes) && slices.Equal(a.suspects, b.suspects) && slices.Equal(a.certain, b.certain) && slices.Equal(a.possible, b.possible) && a.next == b.next && a.rest == b.rest && a.e == b.e
}

func (l lot) answer(t *testing.T, h ...api.Hearing) answer {
	t.Helper()
	a := answer{causes: l.causes(t, h...), suspects: l.suspects(t, h...), certain: l.certain(t, h...), possible: l.possible(t, h...)}
	a.next, a.rest, a.e = listen.Next(l.p, l.d, l.side, h)
	return a
}

// wantedAnswer follows the chapter's definitions.
func (l lot) wantedAnswer(h ...api.Hearing) answer {
	left := l.wanted(h...)
	a := answer{e: api.ErrPlan}
	for _, x := range left {
		a.causes = append(a.causes, x.cause)
		if !slices.Contains(a.suspects, x.cause.Plate) {
			a.suspects = append(a.suspects, x.cause.Plate)
		}
		if !slices.Equal(x.discs, left[0].discs) {
			a.e = api.OK
		}
	}
	a.rest = math.MaxInt
	for _, serial := range l.serials() {
		has := 0
		for _, x := range left {
			if slices.Contains(x.discs, serial) {
				has++
			}
		}
		if has > 0 {
			a.possible = append(a.possible, serial)
		}
		if has > 0 && has == len(left) {
			a.certain = append(a.certain, serial)
		}
		if rest := max(has, len(left)-has); rest < a.rest {
			a.next, a.rest = serial, rest
		}
	}
	if a.e != api.OK {
		a.next, a.rest = 0, 0
	}
	return a
}

// checkAnswer compares all that is found with what is wanted.
func checkAnswer(t *testing.T, l lot, h ...api.Hearing) answer {
	t.Helper()
	want, got := l.wantedAnswer(h...), l.answer(t, h...)
	if !got.equal(want) {
		t.Fatalf("%v after %v: %v, not %v", l, h, got, want)
	}
	return got
}

// P9.6 to P9.8: the chapter's examples, and what comes after them.
func TestAnswerExamples(t *testing.T) {
	of12 := []api.Cause{{Plate: 0, From: 1}, {Plate: 1, From: 2}, {Plate: 1, From: 4}, {Plate: 4, From: 5}, {Plate: 5, From: 12}, {Plate: -1, From: 12}}
	everything := []int64{10, 11, 12, 13, 14, 15}
	for _, x := range []struct {
		h []api.Hearing
		answer
	}{
		{[]api.Hearing{yes(10), yes(13), no(12)}, answer{[]api.Cause{{Plate: 2, From: 3}}, []int{2}, []int64{10, 11, 13, 14}, []int64{10, 11, 13, 14}, 0, 0, api.ErrPlan}},
		{[]api.Hearing{yes(12)}, answer{of12, []int{0, 1, 4, 5, -1}, []int64{12}, everything, 10, 4, api.OK}},
		{[]api.Hearing{yes(12), no(10)}, answer{of12[2:], []int{1, 4, 5, -1}, []int64{12}, []int64{12, 15}, 15, 3, api.OK}},
		{[]api.Hearing{yes(12), no(10), yes(15)}, answer{of12[2:5], []int{1, 4, 5}, []int64{12, 15}, []int64{12, 15}, 0, 0, api.ErrPlan}},
		{[]api.Hearing{yes(12), no(15)}, answer{of12[5:], []int{-1}, []int64{12}, []int64{12}, 0, 0, api.ErrPlan}},
		{[]api.Hearing{yes(12), yes(12), yes(11)}, answer{of12[:2], []int{0, 1}, everything, everything, 0, 0, api.ErrPlan}},
		{[]api.Hearing{yes(12), no(12)}, answer{e: api.ErrPlan}},
		{[]api.Hearing{yes(10), no(11), yes(13)}, answer{e: api.ErrPlan}},
	} {
		if got := checkAnswer(t, example(), x.h...); !got.equal(x.answer) {
			t.Errorf("after %v: %v, not %v", x.h, got, x.answer)
		}
	}
}

// P9.6: without hearings all causes are left, those of discs alone at last.
func TestAllCauses(t *testing.T) {
	want := []api.Cause{{Plate: 0, From: 1}, {Plate: 1, From: 2}, {Plate: 1, From: 4}, {Plate: 2, From: 3}, {Plate: 2, From: 6}, {Plate: 3, From: 10}, {Plate: 3, From: 11}, {Plate: 4, From: 5}, {Plate: 5, From: 12}, {Plate: 5, From: 15}, {Plate: 6, From: 13}, {Plate: 6, From: 14}, {Plate: -1, From: 10}, {Plate: -1, From: 11}, {Plate: -1, From: 12}, {Plate: -1, From: 13}, {Plate: -1, From: 14}, {Plate: -1, From: 15}}
	if causes := example().causes(t); !slices.Equal(causes, want) {
		t.Errorf("Causes: %v", causes)
	}
	if suspects := example().suspects(t); !slices.Equal(suspects, []int{0, 1, 2, 3, 4, 5, 6, -1}) {
		t.Errorf("Suspects: %v", suspects)
	}
	other := example()
	other.side = 1
	if suspects := other.suspects(t, no(10), no(12), no(14)); !slices.Equal(suspects, []int{2, 6, -1}) {
		t.Errorf("Suspects on the side 1: %v", suspects)
	}
}

// P9.6 to P9.8: lots without discs or plates, and with few.
func TestSmallLots(t *testing.T) {
	for _, l := range []lot{{nil, nil, 0}, {nil, nil, 1}, {plates(), nil, 0}, {plates(), nil, 1}, {plates()[:1], nil, 0}, {plates()[:4], nil, 1}} {
		if a := checkAnswer(t, l); a.e != api.ErrPlan || len(a.certain) != 0 || len(a.possible) != 0 {
			t.Errorf("%v: %v", l, a)
		}
	}
	for _, serial := range []int64{0, 1, math.MaxInt64} {
		one := lot{plates()[:4], []api.Disc{{Serial: serial, A: 4, B: 4}}, 0}
		for _, h := range [][]api.Hearing{nil, {yes(serial)}} { // it has all causes
			if a := checkAnswer(t, one, h...); a.e != api.ErrPlan || !slices.Equal(a.certain, []int64{serial}) || len(a.causes) != 5 {
				t.Errorf("one disc after %v: %v", h, a)
			}
		}
		if a := checkAnswer(t, one, no(serial)); len(a.causes) != 0 || len(a.certain) != 0 {
			t.Errorf("one disc without the defect: %v", a)
		}
	}
	unused := lot{append(plates()[:4], api.Plate{Kind: 3, Parent: 2}), []api.Disc{{Serial: 7, A: 4, B: 4}}, 0}
	if a := checkAnswer(t, unused); a.e != api.OK || a.next != 7 || a.rest != 5 {
		t.Errorf("a stamper that pressed nothing: %v", a)
	}
	// A cause that no disc has is left if nothing is heard; it leaves no disc that is certain or possible.
	if a := checkAnswer(t, unused, no(7)); !slices.Equal(a.causes, []api.Cause{{Plate: 2, From: 4}}) || len(a.certain) != 0 || len(a.possible) != 0 || a.e != api.ErrPlan {
		t.Errorf("a stamper that pressed nothing, and no defect: %v", a)
	}
}

// P9.6 to P9.8: many lots, with hearings that are true or not.
func TestAnswers(t *testing.T) {
	r := rand.New(rand.NewSource(968))
	seen := map[string]int{}
	for range 3000 {
		l := someLot(r, 14, 12)
		a := checkAnswer(t, l, someHearings(r, l, 5)...)
		if len(a.causes) == 0 {
			seen["nothing is left"]++
		}
		if a.e == api.OK {
			seen["there is a next disc"]++
		}
		if a.e == api.OK && len(a.certain) > 0 {
			seen["some discs are certain, and others not"]++
		}
		if len(a.suspects) > 1 && len(a.suspects) < len(a.causes) {
			seen["a plate is suspect for two causes"]++
		}
		if a.e == api.OK && a.next != l.d[0].Serial {
			seen["another disc than the first one"]++
		}
		if len(a.causes) > 1 && a.e != api.OK {
			seen["causes that cannot be told apart"]++
		}
	}
	for _, what := range []string{"nothing is left", "there is a next disc", "some discs are certain, and others not", "a plate is suspect for two causes", "another disc than the first one", "causes that cannot be told apart"} {
		if seen[what] < 100 {
			t.Errorf("%s: only %d times", what, seen[what])
		}
	}
}

// P9.11: what is true is never excluded, and when all discs were listened to, nothing else is possible.
func TestTruthIsLeft(t *testing.T) {
	r := rand.New(rand.NewSource(911))
	for range 150 {
		l := someLot(r, 14, 12)
		serials := l.serials()
		r.Shuffle(len(serials), func(i, j int) { serials[i], serials[j] = serials[j], serials[i] })
		for _, c := range l.causes(t) {
			has := l.has(t, c)
			n := r.Intn(len(serials) + 1)
			h := truth(has, serials[:n]...)
			if !slices.Contains(l.causes(t, h...), c) || !slices.Contains(l.suspects(t, h...), c.Plate) {
				t.Fatalf("%v is not left for %v after %v", c, l, h)
			}
			if !within(l.certain(t, h...), has) || !within(has, l.possible(t, h...)) {
				t.Fatalf("%v for %v after %v: %v are certain, %v possible", c, l, h, l.certain(t, h...), l.possible(t, h...))
			}
			h = truth(has, serials...)
			if !slices.Equal(l.certain(t, h...), has) || !slices.Equal(l.possible(t, h...), has) {
				t.Fatalf("%v for %v after all: %v are certain, %v possible", c, l, l.certain(t, h...), l.possible(t, h...))
			}
		}
	}
}

// P9.13: one hearing more.
func TestListeningOn(t *testing.T) {
	r := rand.New(rand.NewSource(913))
	for range 500 {
		l := someLot(r, 14, 12)
		h := someHearings(r, l, 8)
		for i := range h {
			causes, after := l.causes(t, h[:i]...), l.causes(t, h[:i+1]...)
			if slices.ContainsFunc(after, func(c api.Cause) bool { return !slices.Contains(causes, c) }) {
				t.Fatalf("%v after %v: %v, and then %v", l, h[:i+1], causes, after)
			}
			if !within(l.possible(t, h[:i+1]...), l.possible(t, h[:i]...)) {
				t.Fatalf("%v after %v: more is possible", l, h[:i+1])
			}
			if len(after) > 0 && !within(l.certain(t, h[:i]...), l.certain(t, h[:i+1]...)) {
				t.Fatalf("%v after %v: less is certain", l, h[:i+1])
			}
		}
	}
}

// P9.14: after the next disc at most its rest is left; no other disc promises less; whoever listens on finds the discs that have the defect.
func TestNext(t *testing.T) {
	r := rand.New(rand.NewSource(914))
	for range 150 {
		l := someLot(r, 14, 12)
		causes := l.causes(t)
		if len(causes) == 0 {
			continue
		}
		has := l.has(t, causes[r.Intn(len(causes))])
		var h []api.Hearing
		for {
			left := len(l.causes(t, h...))
			serial, rest, e := listen.Next(l.p, l.d, l.side, h)
			if e == api.ErrPlan {
				break
			}
			if e != api.OK || rest >= left || rest != l.most(t, h, serial) {
				t.Fatalf("Next for %v after %v: %d, %d, %d; %d causes are left", l, h, serial, rest, e, left)
			}
			for _, d := range l.d {
				if most := l.most(t, h, d.Serial); most < rest || most == rest && d.Serial < serial {
					t.Fatalf("Next for %v after %v: %d, %d, but %d promises %d", l, h, serial, rest, d.Serial, most)
				}
			}
			h = append(h, truth(has, serial)...)
		}
		if !slices.Equal(l.certain(t, h...), has) || !slices.Equal(l.possible(t, h...), has) {
			t.Fatalf("%v have it in %v, but after %v: %v are certain, %v possible", has, l, h, l.certain(t, h...), l.possible(t, h...))
		}
	}
}

// most returns how many causes are left at most after listening to a disc.
func (l lot) most(t *testing.T, h []api.Hearing, serial int64) int {
	t.Helper()
	h = slices.Clone(h)
	return max(len(l.causes(t, append(h, yes(serial))...)), len(l.causes(t, append(h, no(serial))...)))
}

// full returns as many plates and discs as there may be, with a stamper for each disc as far as possible.
func full() lot {
	l := lot{p: plates()[:3]}
	for len(l.p) < api.MaxPlates {
		l.p = append(l.p, api.Plate{Kind: 3, Parent: 2})
	}
	for i := range int64(api.MaxHeard) {
		l.d = append(l.d, api.Disc{Serial: i * i, A: 4 + i, B: api.MaxPlates})
	}
	return l
}

// P9.6 to P9.8: as many plates, discs and hearings as there may be.
func TestFullLots(t *testing.T) {
	l := full()
	var h []api.Hearing
	for i, d := range l.d {
		h = append(h, api.Hearing{Serial: d.Serial, Yes: i >= 120})
	}
	for side, want := range []struct {
		all  int
		then []api.Cause
	}{
		{2 + 253 + 200 + 200, []api.Cause{{Plate: 2, From: 123}}},
		{2 + 253 + 200 + 200, []api.Cause{{Plate: 255, From: 120 * 120}}},
	} {
		l.side = side
		if a := checkAnswer(t, l); len(a.causes) != want.all || a.e != api.OK {
			t.Errorf("the side %d: %d causes, %d", side, len(a.causes), a.e)
		}
		if a := checkAnswer(t, l, h...); !slices.Equal(a.causes, want.then) || len(a.certain) != 80 || len(a.possible) != 80 {
			t.Errorf("the side %d after all hearings: %v", side, a)
		}
	}
}
