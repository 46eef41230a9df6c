package plating_test

import (
	"math/rand"
	"slices"
	"testing"

	"deadwax/api"
	"deadwax/plating"
)

// P7.7: the chapter's examples, and those of DOC.md.
func TestNeedsOfExamples(t *testing.T) {
	s := example(t, grow(0), grow(1), grow(2), grow(2))
	for _, x := range []struct {
		plate, n, want int
		e              api.Errno
	}{
		{0, 0, 0, api.OK}, {0, 1, 0, api.OK}, {0, 2, 0, api.OK}, {0, 3, 1, api.OK}, {0, 4, 3, api.OK}, {0, 5, 4, api.OK}, {0, 6, 5, api.OK}, {0, 7, 0, api.ErrPlan},
		{1, 3, 1, api.OK}, {1, 4, 3, api.OK}, {1, 6, 5, api.OK}, {1, 7, 0, api.ErrPlan},
		{2, 2, 0, api.OK}, {2, 3, 1, api.OK}, {2, 4, 0, api.ErrPlan},
		{3, 0, 0, api.OK}, {3, 1, 0, api.OK}, {3, 2, 0, api.ErrPlan}, {4, 1, 0, api.OK}, {4, 2, 0, api.ErrPlan},
		{0, api.MaxPlates, 0, api.ErrPlan}, {0, api.MaxPlates + 1, 0, api.ErrRange}, {3, -1, 0, api.ErrRange}, {5, 0, 0, api.ErrNone}, {5, -1, 0, api.ErrNone}, {-1, 300, 0, api.ErrNone},
	} {
		if n, e := s.Needs(x.plate, x.n); n != x.want || e != x.e {
			t.Errorf("Needs of %d for %d: %d, %d", x.plate, x.n, n, e)
		}
	}
	for _, plate := range beyond(0, 4) {
		if n, e := s.Needs(int(plate), 1); n != 0 || e != api.ErrNone {
			t.Errorf("Needs of %d: %d, %d", plate, n, e)
		}
	}
	for _, n := range beyond(0, api.MaxPlates) {
		if x, e := s.Needs(0, int(n)); x != 0 || e != api.ErrRange {
			t.Errorf("Needs for %d: %d, %d", n, x, e)
		}
	}
}

// P7.7: plates that are retired have no room, and are no stampers; others do not matter.
func TestNeedsWithRetired(t *testing.T) {
	for name, x := range map[string]struct {
		acts []api.PlateAct
		want []int // for 0, 1, 2 .. stampers under the lacquer
	}{
		"a lacquer":                              {nil, []int{0, 3, 4, 5, 7, 8, 9}},
		"a retired lacquer":                      {[]api.PlateAct{retire(0)}, []int{0}},
		"a father":                               {[]api.PlateAct{grow0(0)}, []int{0, 2, 3, 4, 6, 7, 8}},
		"a retired father":                       {[]api.PlateAct{grow0(0), retire(1)}, []int{0}},
		"a mother of a retired father":           {[]api.PlateAct{grow0(0), grow0(1), retire(1)}, []int{0, 1, 2, 3}},
		"a retired mother":                       {[]api.PlateAct{grow0(0), grow0(1), retire(2)}, []int{0, 2, 3, 4}},
		"a stamper of a retired mother":          {[]api.PlateAct{grow0(0), grow0(1), grow0(2), retire(2)}, []int{0, 0, 2, 3, 4}},
		"a retired stamper":                      {[]api.PlateAct{grow0(0), grow0(1), grow0(2), retire(3)}, []int{0, 1, 2, 4, 5, 6}},
		"two mothers with a stamper":             {[]api.PlateAct{grow0(0), grow0(1), grow0(1), grow0(3)}, []int{0, 0, 1, 2, 3, 4, 5}},
		"another lacquer with a father":          {[]api.PlateAct{lacquer(1000), grow0(1)}, []int{0, 3, 4, 5, 7, 8, 9}},
		"another lacquer with all that can grow": {[]api.PlateAct{lacquer(1000), grow0(0), grow0(1), grow0(3), grow0(4), grow0(4), retire(2)}, []int{0}},
	} {
		s := replay(t, easy(2, 3), append([]api.PlateAct{lacquer(1000), bath(0, 1)}, x.acts...)...)
		for n := range 9 {
			want, wantedError := 0, api.ErrPlan
			if n < len(x.want) {
				want, wantedError = x.want[n], api.OK
			}
			if got, e := s.Needs(0, n); got != want || e != wantedError {
				t.Errorf("%s: Needs for %d: %d, %d", name, n, got, e)
			}
		}
	}
}

// P7.7: how many plates there may be does not matter, and neither do baths and heat.
func TestManyNeeds(t *testing.T) {
	for mothers := 1; mothers <= api.MaxGrown; mothers++ {
		for stampers := 1; stampers <= api.MaxGrown; stampers++ {
			s := replay(t, api.Recipe{Thin: [4]int64{0, 1, 1, 1}, Thick: [4]int64{0, 1, 1, 1}, Seed: api.MaxThick, Mothers: mothers, Stampers: stampers}, lacquer(1))
			for n := range api.MaxPlates + 1 {
				want, wantedError := 0, api.OK
				if n > mothers*stampers {
					wantedError = api.ErrPlan
				} else if n > 0 {
					want = 1 + (n+stampers-1)/stampers + n
				}
				if got, e := s.Needs(0, n); got != want || e != wantedError {
					t.Fatalf("Needs for %d with %d mothers and %d stampers: %d, %d", n, mothers, stampers, got, e)
				}
			}
		}
	}
}

// under counts the stampers that are not retired and have a plate in their line.
func under(w []api.Plate, plate int) int {
	n := 0
	for i, p := range w {
		if p.Kind != api.PlateStamper || p.Retired {
			continue
		}
		for at := i; at >= 0; at = w[at].Parent {
			if at == plate {
				n++
			}
		}
	}
	return n
}

// mostStampers grows plates on others in all ways, up to so many, and keeps the most stampers under each of the first plates, by the number of growths.
func mostStampers(s *plating.Shop, growths int, most [][]int) {
	plates := s.Plates()
	for i := range most[0] {
		for g := range growths + 1 {
			done := len(most) - 1 - growths
			most[done+g][i] = max(most[done+g][i], under(plates, i))
		}
	}
	if growths == 0 {
		return
	}
	for i := range plates {
		c := s.Copy()
		if _, e := c.Do(grow0(i)); e == api.OK {
			mostStampers(c, growths-1, most)
		}
	}
}

// someTree returns a shop in which some plates were grown and retired.
func someTree(t *testing.T, r *rand.Rand, acts int) *plating.Shop {
	t.Helper()
	s := replay(t, easy(1+r.Intn(3), 1+r.Intn(3)), bath(0, 1), lacquer(5), lacquer(6), grow0(r.Intn(2)))
	for range acts {
		n := r.Intn(len(s.Plates()))
		s.Do(grow0(n))
		if r.Intn(3) == 0 {
			s.Do(retire(n))
		}
	}
	return s
}

// P7.7, P7.14: with fewer growths than are needed there are fewer stampers, whatever is grown.
func TestLeastGrowths(t *testing.T) {
	r := rand.New(rand.NewSource(714))
	const growths = 5
	seen := map[int]int{}
	for range 150 {
		s := someTree(t, r, r.Intn(8))
		most := make([][]int, growths+1)
		for g := range most {
			most[g] = make([]int, len(s.Plates()))
		}
		mostStampers(s, growths, most)
		for plate := range s.Plates() {
			for n := range 12 {
				want := slices.IndexFunc(most, func(l []int) bool { return l[plate] >= n })
				got, e := s.Needs(plate, n)
				if want >= 0 && (got != want || e != api.OK) || want < 0 && e == api.OK && got <= growths {
					t.Fatalf("Needs of %d for %d of %v: %d, %d, not %d", plate, n, s.Plates(), got, e, want)
				}
				if e != api.OK {
					got = -1
				}
				seen[got]++
			}
		}
	}
	for n := -1; n <= 7; n++ {
		if seen[n] < 20 {
			t.Errorf("%d growths were needed only %d times", n, seen[n])
		}
	}
}

// P7.7, P7.14: so many stampers are possible as there are when nothing can be grown any more; with as many growths as are needed they are there.
func TestAllGrowths(t *testing.T) {
	r := rand.New(rand.NewSource(77))
	for range 150 {
		s := someTree(t, r, r.Intn(20))
		all := s.Copy()
		for i := 0; i < len(all.Plates()); i++ {
			for e := api.OK; e == api.OK; _, e = all.Do(grow0(i)) {
			}
		}
		for plate := range s.Plates() {
			n := under(all.Plates(), plate)
			if _, e := s.Needs(plate, n); e != api.OK {
				t.Errorf("Needs of %d for %d of %v: %d", plate, n, s.Plates(), e)
			}
			if x, e := s.Needs(plate, n+1); x != 0 || e != api.ErrPlan {
				t.Errorf("Needs of %d for %d of %v: %d, %d", plate, n+1, s.Plates(), x, e)
			}
			for n := range n {
				follow(t, s.Copy(), plate, n)
			}
		}
	}
}

// follow grows one plate after another, each time one with which one growth fewer is needed.
func follow(t *testing.T, s *plating.Shop, plate, n int) {
	t.Helper()
	for left, _ := s.Needs(plate, n); left > 0; left-- {
		next := -1
		for i := range s.Plates() {
			c := s.Copy()
			if _, e := c.Do(grow0(i)); e != api.OK {
				continue
			}
			if x, e := c.Needs(plate, n); e == api.OK && x == left-1 {
				next = i
				break
			}
		}
		if next < 0 {
			t.Fatalf("%d growths are needed for %d under %d of %v, but none of them can be done", left, n, plate, s.Plates())
		}
		do(t, s, grow0(next))
	}
	if under(s.Plates(), plate) < n {
		t.Fatalf("not %d stampers under %d of %v", n, plate, s.Plates())
	}
}
