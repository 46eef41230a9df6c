package plating_test

import (
	"math/rand"
	"reflect"
	"slices"
	"testing"

	"deadwax/api"
	"deadwax/plating"
)

// answers are the results of all methods that change nothing.
type answers struct {
	plates         []api.Plate
	tanks          []api.Tank
	acts           []api.PlateAct
	lines, flaws   [][]int
	bearers        [][]int
	origins        [][2]int
	needs          []int
	seconds        []int64
	failures, sums []api.Errno
}

func ask(s *plating.Shop) answers {
	a := answers{plates: s.Plates(), tanks: s.Tanks(), acts: s.Acts()}
	for i := range a.plates {
		l, _ := s.Line(i)
		f, _ := s.Flaws(i)
		n, e := s.Needs(i, 2)
		a.lines, a.flaws, a.needs, a.failures = append(a.lines, l), append(a.flaws, f), append(a.needs, n), append(a.failures, e)
		a.sums = append(a.sums, s.CheckLine([]int{i}), s.CheckLine([]int{0, i}))
		x, e := s.Seconds(api.PlateAct{Kind: api.DoGrow, Plate: i, Strike: [2]int64{30, 3}, Current: 70})
		a.seconds, a.failures = append(a.seconds, x), append(a.failures, e)
	}
	for i := 0; ; i++ {
		plate, place, e := s.Origin(i)
		if e != api.OK {
			return a
		}
		l, _ := s.Bearers(i)
		a.bearers, a.origins = append(a.bearers, l), append(a.origins, [2]int{plate, place})
	}
}

// spoil changes all memory of answers.
func (a answers) spoil() {
	clear(a.plates[:cap(a.plates)])
	clear(a.tanks[:cap(a.tanks)])
	clear(a.acts[:cap(a.acts)])
	for _, lists := range [][][]int{a.lines, a.flaws, a.bearers} {
		for _, l := range lists {
			clear(l[:cap(l)])
		}
	}
}

// R5: results share no memory with the shop. R10: what was asked in between makes no difference.
func TestAgain(t *testing.T) {
	r := rand.New(rand.NewSource(10))
	changed := 0
	for range 100 {
		s, w := grown(t, r, 60)
		first, second := ask(replay(t, w.r, w.acts...)), ask(s)
		if !reflect.DeepEqual(first, second) {
			t.Fatalf("%v, then %v", first, second)
		}
		second.spoil()
		if third := ask(s); !reflect.DeepEqual(first, third) {
			t.Fatalf("%v, and after a change of results %v", first, third)
		}
		c := s.Copy()
		if copied := ask(c); !reflect.DeepEqual(first, copied) {
			t.Fatalf("%v, and of a copy %v", first, copied)
		}
		for range 20 {
			c.Do(someAct(r, w))
		}
		if fourth := ask(s); !reflect.DeepEqual(first, fourth) {
			t.Fatalf("%v, and after acts of a copy %v", first, fourth)
		}
		copied := ask(c)
		for range 20 {
			s.Do(someAct(r, w))
		}
		if !reflect.DeepEqual(first, copied) && !reflect.DeepEqual(first, ask(s)) {
			changed++
		}
		if !reflect.DeepEqual(copied, ask(c)) {
			t.Fatalf("%v of a copy, and after acts of the shop %v", copied, ask(c))
		}
	}
	if changed < 50 {
		t.Errorf("acts changed only %d shops", changed)
	}
}

// R5: no argument is changed or kept, with spare memory behind it or without.
func TestArguments(t *testing.T) {
	l := []api.PlateAct{lacquer(1000), bath(2000, 500), grow(0), flaw(1, 9), grow(1), retire(0)}
	kept := slices.Clone(l)
	s, n, e := plating.Replay(recipe(), l[:5])
	if n != 5 || e != api.OK {
		t.Fatalf("Replay: %d, %d", n, e)
	}
	before := ask(s)
	do(t, s, flaw(2, 1))
	plates := []int{0, 1, 2, 7}
	s.CheckLine(plates[:3])
	s.CheckLine(plates[:2])
	if !slices.Equal(l, kept) || !slices.Equal(plates, []int{0, 1, 2, 7}) {
		t.Errorf("arguments were changed: %v, %v", l, plates)
	}
	again, _, e := plating.Replay(recipe(), l[:5])
	if e != api.OK {
		t.Fatalf("Replay: %d", e)
	}
	clear(l)
	if !reflect.DeepEqual(ask(again), before) {
		t.Errorf("a change of the acts changed the shop")
	}
}
