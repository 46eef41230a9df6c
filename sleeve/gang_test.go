package sleeve_test

import (
	"math/rand"
	"slices"
	"testing"

	"deadwax/api"
	"deadwax/sleeve"
)

// P10.2, P10.3: the chapter's examples.
func TestGangExamples(t *testing.T) {
	j := job{[]int64{1000, 300}, 8, 50}
	if n, l := j.run(t); n != 167 || !slices.Equal(l, []int64{6, 2}) {
		t.Errorf("the run: %d, %v", n, l)
	}
	if n := j.cost(t, []int{0, 0}); n != 217 {
		t.Errorf("the cost of one plate: %d", n)
	}
	if n := j.cost(t, []int{0, 1}); n != 263 {
		t.Errorf("the cost of two plates: %d", n)
	}
	if gang, n := j.gang(t); n != 217 || !slices.Equal(gang, []int{0, 0}) {
		t.Errorf("the best gang: %v, %d", gang, n)
	}
}

// P10.2: the run is the first one of all numbers of sheets, and there is none for more designs than places.
func TestRun(t *testing.T) {
	r := rand.New(rand.NewSource(102))
	none := 0
	for range 20000 {
		j := someJob(r, r.Intn(api.MaxDesigns+1))
		want, places, is := j.wantedRun()
		n, l, e := sleeve.Run(j.copies, j.slots)
		if is && (n != want || !slices.Equal(l, places) || e != api.OK) {
			t.Fatalf("Run of %v: %d, %v, %d, not %d, %v", j, n, l, e, want, places)
		}
		if !is {
			none++
			if n != 0 || len(l) != 0 || e != api.ErrLimit {
				t.Fatalf("Run of %v: %d, %v, %d", j, n, l, e)
			}
		}
	}
	if none < 1000 {
		t.Errorf("%d without a run", none)
	}
}

// P10.2: at the limits.
func TestGreatRuns(t *testing.T) {
	const most = api.MaxCopies
	for _, c := range []struct {
		copies []int64
		slots  int64
		sheets int64
		places []int64
	}{
		{nil, 1, 0, nil},
		{nil, api.MaxSlots, 0, nil},
		{[]int64{1}, 1, 1, []int64{1}},
		{[]int64{1}, api.MaxSlots, 1, []int64{1}},
		{[]int64{most}, 1, most, []int64{1}},
		{[]int64{most}, 2, most / 2, []int64{2}},
		{[]int64{most}, 64, most / 64, []int64{64}},
		{[]int64{most}, 63, most/63 + 1, []int64{63}},
		{[]int64{most, most}, 2, most, []int64{1, 1}},
		{[]int64{most, most}, 3, most, []int64{1, 1}}, // the third place is of no use
		{[]int64{most, 1}, 3, most / 2, []int64{2, 1}},
		{slices.Repeat([]int64{most}, 8), 8, most, []int64{1, 1, 1, 1, 1, 1, 1, 1}},
		{slices.Repeat([]int64{most}, 8), 64, most / 8, []int64{8, 8, 8, 8, 8, 8, 8, 8}},
		{slices.Repeat([]int64{1}, 8), 8, 1, []int64{1, 1, 1, 1, 1, 1, 1, 1}},
	} {
		if n, l := (job{copies: c.copies, slots: c.slots}).run(t); n != c.sheets || !slices.Equal(l, c.places) {
			t.Errorf("%v: %d, %v", c, n, l)
		}
	}
}

// P10.8: the sheets give each design its copies, their places are there, and one sheet less is not enough.
func TestEnough(t *testing.T) {
	r := rand.New(rand.NewSource(108))
	for range 3000 {
		j := greatJob(r, r.Intn(api.MaxDesigns+1))
		j.slots = max(j.slots, int64(len(j.copies)))
		n, l := j.run(t)
		if len(l) != len(j.copies) {
			t.Fatalf("Run of %v: %d, %v", j, n, l)
		}
		sum := int64(0)
		for i, places := range l {
			if places*n < j.copies[i] || (places-1)*n >= j.copies[i] {
				t.Fatalf("Run of %v: %d, %v, not as many places as the design %d needs", j, n, l, i)
			}
			sum += places
		}
		if sum > j.slots {
			t.Fatalf("Run of %v: %d, %v, with more places than there are", j, n, l)
		}
		if _, needed := j.needs(max(n-1, 1)); n > 1 && needed <= j.slots {
			t.Fatalf("Run of %v: %d, but one less is enough", j, n)
		}
	}
}

// P10.8: with more copies, or more designs, not fewer sheets; with more places not more.
func TestMoreToPrint(t *testing.T) {
	r := rand.New(rand.NewSource(1081))
	moreCopies, moreDesigns, morePlaces := 0, 0, 0
	for range 3000 {
		j := greatJob(r, 1+r.Intn(api.MaxDesigns-1))
		j.slots = max(j.slots, int64(len(j.copies)+1))
		n, _ := j.run(t)
		more := job{copies: slices.Clone(j.copies), slots: j.slots}
		i := r.Intn(len(more.copies))
		more.copies[i] = min(more.copies[i]+r.Int63n(1000), api.MaxCopies)
		if k, _ := more.run(t); k < n {
			t.Fatalf("%v needs %d sheets, %v %d", j, n, more, k)
		} else if k > n {
			moreCopies++
		}
		more.copies = slices.Insert(slices.Clone(j.copies), i, 1+r.Int63n(1000))
		if k, _ := more.run(t); k < n {
			t.Fatalf("%v needs %d sheets, %v %d", j, n, more, k)
		} else if k > n {
			moreDesigns++
		}
		roomy := job{copies: j.copies, slots: min(j.slots+r.Int63n(4), api.MaxSlots)}
		if k, _ := roomy.run(t); k > n {
			t.Fatalf("%v needs %d sheets, %v %d", j, n, roomy, k)
		} else if k < n {
			morePlaces++
		}
	}
	if moreCopies < 100 || moreDesigns < 100 || morePlaces < 100 {
		t.Errorf("more sheets for more copies: %d, for more designs: %d; fewer with more places: %d", moreCopies, moreDesigns, morePlaces)
	}
}

// P10.3: of all lists of plates just the gangs have a cost, if each plate has room.
func TestCost(t *testing.T) {
	r := rand.New(rand.NewSource(103))
	seen := map[api.Errno]int{}
	for range 20000 {
		j := someJob(r, r.Intn(5))
		list := make([]int, r.Intn(5))
		if r.Intn(3) > 0 {
			list = make([]int, len(j.copies))
		}
		for i := range list {
			list[i] = r.Intn(len(list)+2) - 1
			if r.Intn(4) > 0 {
				list[i] = r.Intn(i + 1)
			}
		}
		want, e := j.wantedCostOrError(list)
		if n, got := sleeve.Cost(j.copies, j.slots, j.plate, list); n != want || got != e {
			t.Fatalf("Cost of %v for %v: %d, %d, not %d, %d", list, j, n, got, want, e)
		}
		seen[e]++
	}
	for _, e := range []api.Errno{api.OK, api.ErrEqual, api.ErrArg, api.ErrLimit} {
		if seen[e] < 500 {
			t.Errorf("the error %d came %d times", e, seen[e])
		}
	}
}

// P10.3: a design is on a plate of an earlier one, or on the next plate; the errors come in their order.
func TestNoGangs(t *testing.T) {
	copies := []int64{5, 6, 7}
	for _, gang := range [][]int{{1, 0, 0}, {1, 1, 1}, {0, 2, 1}, {0, 2, 2}, {0, 0, 2}, {0, 1, 3}, {2, 1, 0}} {
		for _, slots := range []int64{1, 2, 64} {
			if n, e := sleeve.Cost(copies, slots, 1, gang); n != 0 || e != api.ErrArg {
				t.Errorf("Cost of %v on %d places: %d, %d", gang, slots, n, e)
			}
		}
	}
	for i := range copies {
		for _, plate := range beyond(0, i) {
			gang := []int{0, 0, 0}
			gang[i] = plate
			if n, e := sleeve.Cost(copies, 3, 1, gang); n != 0 || e != api.ErrArg {
				t.Errorf("Cost of %v: %d, %d", gang, n, e)
			}
		}
	}
	for _, gang := range [][]int{nil, {}, {0}, {0, 0}, {0, 0, 0, 0}, {7, 7}, {-1, -1, -1, -1}, make([]int, 1000)} {
		if n, e := sleeve.Cost(copies, 1, 1, gang); n != 0 || e != api.ErrEqual {
			t.Errorf("Cost of %v: %d, %d", gang, n, e)
		}
	}
	for _, gang := range [][]int{{0, 0, 0}, {0, 0, 1}, {0, 1, 1}, {0, 1, 0}} {
		if n, e := sleeve.Cost(copies, 1, 1, gang); n != 0 || e != api.ErrLimit {
			t.Errorf("Cost of %v on one place: %d, %d", gang, n, e)
		}
	}
	if n, e := sleeve.Cost(copies, 2, 1, []int{0, 1, 0}); n == 0 || e != api.OK {
		t.Errorf("Cost of two designs on two places: %d, %d", n, e)
	}
}

// P10.3: the best gang is the first one of the least cost, of all gangs.
func TestGang(t *testing.T) {
	r := rand.New(rand.NewSource(1031))
	several, together, apart := 0, 0, 0
	for designs := range 6 {
		all := gangs(designs)
		if len(all) != []int{1, 1, 2, 5, 15, 52}[designs] {
			t.Fatalf("%d gangs of %d designs", len(all), designs)
		}
		for range 300 {
			j := someJob(r, designs)
			gang, n := j.gang(t)
			best, least := j.wantedGang(all)
			if n != least || !slices.Equal(gang, best) {
				t.Fatalf("Gang of %v: %v, %d, not %v, %d", j, gang, n, best, least)
			}
			equal := 0
			for _, g := range all {
				if cost, is := j.wantedCost(g); is && cost == least {
					equal++
				}
			}
			if equal > 1 {
				several++
			}
			if designs > 1 && slices.Max(gang) == 0 {
				together++
			} else if designs > 1 && slices.Max(gang) < designs-1 {
				apart++
			}
		}
	}
	if several < 100 || together < 100 || apart < 100 {
		t.Errorf("%d with several best gangs, %d on one plate, %d on some", several, together, apart)
	}
}

// P10.9: no gang of eight designs costs less than the best one; its cost is what Cost returns.
func TestNoCheaperGang(t *testing.T) {
	r := rand.New(rand.NewSource(109))
	all := gangs(api.MaxDesigns)
	if len(all) != 4140 {
		t.Fatalf("%d gangs", len(all))
	}
	plates := map[int]int{}
	for round := range 20 {
		j := greatJob(r, api.MaxDesigns)
		if round%2 == 0 {
			j.slots, j.plate = 3+r.Int63n(8), r.Int63n(1000)
		}
		gang, least := j.gang(t)
		if n := j.cost(t, gang); n != least {
			t.Fatalf("Gang of %v: %v, %d, but it costs %d", j, gang, least, n)
		}
		plates[slices.Max(gang)+1]++
		for _, g := range all {
			n, e := sleeve.Cost(j.copies, j.slots, j.plate, g)
			if e == api.OK && (n < least || n == least && slices.Compare(g, gang) < 0) {
				t.Fatalf("Gang of %v: %v, %d, but %v costs %d", j, gang, least, g, n)
			}
			if e != api.OK && e != api.ErrLimit {
				t.Fatalf("Cost of %v for %v: %d", g, j, e)
			}
		}
	}
	if len(plates) < 4 {
		t.Errorf("gangs with so many plates: %v", plates)
	}
}

// P10.3: where all gangs cost the same, or as few places as possible leave no choice.
func TestGangsWithoutChoice(t *testing.T) {
	for designs := range api.MaxDesigns + 1 {
		copies := slices.Repeat([]int64{api.MaxCopies}, designs)
		apart := make([]int, designs)
		for i := range apart {
			apart[i] = i
		}
		want := int64(designs) * (api.MaxCopies + api.MaxPlate)
		if gang, n := (job{copies, 1, api.MaxPlate}).gang(t); n != want || !slices.Equal(gang, apart) {
			t.Errorf("%d designs on one place: %v, %d", designs, gang, n)
		}
		// on as many places as there are copies, all have one sheet, so that only plates count
		copies = slices.Repeat([]int64{8}, designs)
		together := make([]int, designs)
		want = min(int64(designs), 1)
		if gang, n := (job{copies, 64, 0}).gang(t); n != want || !slices.Equal(gang, together) {
			t.Errorf("%d designs on 64 places: %v, %d", designs, gang, n)
		}
	}
	// all on one plate, or each on its own one, they fill all places of 840 sheets
	for designs := 1; designs <= api.MaxDesigns; designs++ {
		j := job{slices.Repeat([]int64{840}, designs), int64(designs), 0}
		if gang, n := j.gang(t); n != 840 || !slices.Equal(gang, make([]int, designs)) {
			t.Errorf("Gang of %v: %v, %d", j, gang, n)
		}
	}
}

// P10.9: with more places, or a cheaper plate, the best gang does not cost more.
func TestCheaperPlates(t *testing.T) {
	r := rand.New(rand.NewSource(1091))
	roomier, cheaper := 0, 0
	for range 500 {
		j := greatJob(r, r.Intn(6))
		j.plate = r.Int63n(2000)
		_, n := j.gang(t)
		if _, k := (job{j.copies, min(j.slots+1+r.Int63n(3), api.MaxSlots), j.plate}).gang(t); k > n {
			t.Fatalf("%v: %d, with more places %d", j, n, k)
		} else if k < n {
			roomier++
		}
		if _, k := (job{j.copies, j.slots, r.Int63n(j.plate + 1)}).gang(t); k > n {
			t.Fatalf("%v: %d, with a cheaper plate %d", j, n, k)
		} else if k < n {
			cheaper++
		}
	}
	if roomier < 100 || cheaper < 100 {
		t.Errorf("%d cheaper with more places, %d with a cheaper plate", roomier, cheaper)
	}
}

// P10.2: ErrMany, ErrArg and ErrRange of all functions with copies, before their other errors.
func TestInvalidJobs(t *testing.T) {
	wrong := func(name string, j job, e api.Errno) {
		t.Helper()
		if got := sleeve.CheckCopies(j.copies, j.slots, j.plate); got != e {
			t.Errorf("%s: CheckCopies: %d, not %d", name, got, e)
		}
		if gang, n, got := sleeve.Gang(j.copies, j.slots, j.plate); len(gang) != 0 || n != 0 || got != e {
			t.Errorf("%s: Gang: %v, %d, %d, not %d", name, gang, n, got, e)
		}
		for _, gang := range [][]int{nil, make([]int, len(j.copies)), {-1}, {0, 5}} {
			if n, got := sleeve.Cost(j.copies, j.slots, j.plate, gang); n != 0 || got != e {
				t.Errorf("%s: Cost: %d, %d, not %d", name, n, got, e)
			}
		}
		if n, l, got := sleeve.Run(j.copies, j.slots); j.plate == 0 && (n != 0 || len(l) != 0 || got != e) {
			t.Errorf("%s: Run: %d, %v, %d, not %d", name, n, l, got, e)
		}
	}
	for _, slots := range []int64{1, 2, 64, 0, -1, 65} {
		for _, plate := range []int64{0, api.MaxPlate, -1, api.MaxPlate + 1} {
			for designs := 1; designs <= 40; designs++ {
				copies := slices.Repeat([]int64{3}, designs)
				if designs > api.MaxDesigns {
					wrong("too many designs", job{copies, slots, plate}, api.ErrMany)
				}
				e := api.ErrArg
				if designs > api.MaxDesigns {
					e = api.ErrMany
				}
				for _, n := range beyond64(1, api.MaxCopies) {
					copies[designs/2] = n
					wrong("wrong copies", job{copies, slots, plate}, e)
				}
			}
		}
	}
	for _, copies := range [][]int64{nil, {1}, {api.MaxCopies}, slices.Repeat([]int64{5}, 8)} {
		for _, slots := range beyond64(1, api.MaxSlots) {
			wrong("wrong places", job{copies, slots, 0}, api.ErrRange)
			wrong("wrong places", job{copies, slots, 7}, api.ErrRange)
		}
		for _, plate := range beyond64(0, api.MaxPlate) {
			wrong("a wrong plate", job{copies, 8, plate}, api.ErrRange)
			wrong("a wrong plate", job{copies, 0, plate}, api.ErrRange)
		}
	}
}

// P10.2: at the limits all is valid.
func TestValidJobs(t *testing.T) {
	for _, copies := range [][]int64{nil, {}, {1}, {api.MaxCopies}, slices.Repeat([]int64{1}, 8), slices.Repeat([]int64{api.MaxCopies}, 8)} {
		for _, slots := range []int64{1, 2, 63, 64} {
			for _, plate := range []int64{0, 1, api.MaxPlate - 1, api.MaxPlate} {
				if e := sleeve.CheckCopies(copies, slots, plate); e != api.OK {
					t.Errorf("CheckCopies of %v, %d, %d: %d", copies, slots, plate, e)
				}
			}
		}
	}
}
