package plating_test

import (
	"math/rand"
	"slices"
	"testing"

	"deadwax/api"
)

// P7.4
func TestLines(t *testing.T) {
	s := tree(t)
	for plate, want := range [][]int{{0}, {0, 1}, {0, 1, 2}, {0, 1, 3}, {0, 1, 2, 4}, {0, 1, 2, 5}} {
		if l := line(t, s, plate); !slices.Equal(l, want) {
			t.Errorf("Line of %d: %v", plate, l)
		}
		if e := s.CheckLine(want); e != api.OK {
			t.Errorf("CheckLine of %v: %d", want, e)
		}
	}
	for _, plate := range beyond(0, 5) {
		if l, e := s.Line(int(plate)); len(l) != 0 || e != api.ErrNone {
			t.Errorf("Line of %d: %v, %d", plate, l, e)
		}
		for _, l := range [][]int{{int(plate)}, {0, 1, int(plate)}, {int(plate), 0}, {0, int(plate), 2}, {5, 5, int(plate), 5}} {
			if e := s.CheckLine(l); e != api.ErrNone {
				t.Errorf("CheckLine of %v: %d", l, e)
			}
		}
	}
	for _, l := range [][]int{nil, {}, {1}, {4}, {1, 0}, {0, 0}, {0, 1, 1}, {1, 2}, {0, 2}, {0, 1, 2, 3}, {0, 1, 3, 4}, {1, 2, 4}, {0, 1, 2, 4, 4}, {0, 0, 1, 2, 4}, {0, 1, 4}, {4, 2, 1, 0}} {
		if e := s.CheckLine(l); e != api.ErrSum {
			t.Errorf("CheckLine of %v: %d", l, e)
		}
	}
}

// P7.4, P7.9: lines of many plates, and all lists of up to four plates that are none.
func TestManyLines(t *testing.T) {
	r := rand.New(rand.NewSource(79))
	kinds := map[int]int{}
	for range 60 {
		s, w := grown(t, r, 30)
		plates := s.Plates()
		for i, p := range plates {
			l := line(t, s, i)
			if !slices.Equal(l, w.line(i)) || len(l) != p.Kind+1 || l[p.Kind] != i {
				t.Fatalf("Line of %d after %v: %v", i, w.acts, l)
			}
			for kind, x := range l {
				if plates[x].Kind != kind {
					t.Fatalf("the plate %d of the line %v is a %d", x, l, plates[x].Kind)
				}
			}
			kinds[p.Kind]++
		}
		few := min(len(plates), 8)
		var try func(l []int)
		try = func(l []int) {
			want := api.ErrSum
			if len(l) > 0 && slices.Equal(l, w.line(l[len(l)-1])) {
				want = api.OK
			}
			if e := s.CheckLine(l); e != want {
				t.Fatalf("CheckLine of %v after %v: %d", l, w.acts, e)
			}
			if len(l) < 4 {
				for i := range few {
					try(append(slices.Clone(l), i))
				}
			}
		}
		try(nil)
	}
	for kind := range 4 {
		if kinds[kind] < 20 {
			t.Errorf("only %d plates of the kind %d", kinds[kind], kind)
		}
	}
}
