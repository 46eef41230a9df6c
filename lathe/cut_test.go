package lathe_test

import (
	"math/rand"
	"testing"

	"deadwax/api"
	"deadwax/lathe"
)

// checkBroken holds what CheckCut returns against a rule, 0 for none.
func checkBroken(t *testing.T, name string, b api.Blank, l []api.Point, r []int64, index, rule int) {
	t.Helper()
	want := api.OK
	if rule != 0 {
		want = api.ErrRule
	}
	if i, n, e := lathe.CheckCut(b, l, r); i != index || n != rule || e != want {
		t.Errorf("%s: %d, %d, %d, not %d, %d, %d", name, i, n, e, index, rule, want)
	}
}

// P5.3: the chapter's examples.
func TestCheckCutExamples(t *testing.T) {
	checkBroken(t, "the outermost cut", blank(), points(), radii(), 0, 0)
	checkBroken(t, "900 at 3", blank(), points(), []int64{980, 979, 930, 900, 880}, 3, api.CutLand)
}

// P5.3: each rule just kept, and just broken.
func TestCheckCutOfEachRule(t *testing.T) {
	narrow := []api.Point{{In: -2, Out: 3}, {In: -2, Out: 3}, {In: -1, Out: 4}}
	b := api.Blank{Per: 2, Rim: 100, Core: 10, Land: 5, Slow: 4, Fast: 9}
	checkBroken(t, "at the rim", b, narrow, []int64{97, 93, 86}, 0, 0)
	checkBroken(t, "beyond the rim", b, narrow, []int64{98, 94, 86}, 0, api.CutRim)
	checkBroken(t, "the rim later", b, []api.Point{{}, {Out: 50}}, []int64{60, 51}, 1, api.CutRim)
	checkBroken(t, "at the core", b, narrow, []int64{27, 20, 11}, 0, 0)
	checkBroken(t, "beyond the core", b, narrow, []int64{26, 19, 10}, 2, api.CutCore)
	checkBroken(t, "the core at once", b, narrow, []int64{11, 7, -2}, 0, api.CutCore)
	checkBroken(t, "just slow enough", b, narrow[:2], []int64{97, 93}, 0, 0)
	checkBroken(t, "too slow", b, narrow[:2], []int64{97, 94}, 1, api.CutSlow)
	checkBroken(t, "outwards", b, narrow[:2], []int64{90, 91}, 1, api.CutSlow)
	checkBroken(t, "just fast enough", b, narrow[:2], []int64{97, 88}, 0, 0)
	checkBroken(t, "too fast", b, narrow[:2], []int64{97, 87}, 1, api.CutFast)
	checkBroken(t, "just enough land", b, narrow, []int64{97, 91, 86}, 0, 0)
	checkBroken(t, "too little land", b, narrow, []int64{97, 91, 87}, 2, api.CutLand)
	b.Per = 3
	checkBroken(t, "no turn before", b, narrow, []int64{97, 91, 87}, 0, 0)
	b.Per = 1
	checkBroken(t, "a turn of one sample", b, narrow[:2], []int64{97, 88}, 1, api.CutLand)
	checkBroken(t, "no points", b, nil, nil, 0, 0)
}

// P5.3: of several rules the first sample decides, and then the least number.
func TestCheckCutOfSeveralRules(t *testing.T) {
	b := api.Blank{Per: 1, Rim: 100, Core: 50, Land: 5, Slow: 4, Fast: 9}
	all := []api.Point{{}, {In: -60, Out: 60}}
	checkBroken(t, "rim, core, slow and land", b, all, []int64{50, 50}, 1, api.CutRim)
	checkBroken(t, "core, fast and land", b, all, []int64{50, 40}, 1, api.CutCore)
	checkBroken(t, "slow and land", b, []api.Point{{}, {}}, []int64{80, 77}, 1, api.CutSlow)
	checkBroken(t, "fast and land", b, []api.Point{{}, {Out: 10}}, []int64{80, 70}, 1, api.CutFast)
	checkBroken(t, "land, then the rim", b, []api.Point{{}, {}, {Out: 60}}, []int64{80, 76, 70}, 1, api.CutLand)
	checkBroken(t, "the core, then the rim", b, []api.Point{{}, {Out: 60}}, []int64{49, 45}, 0, api.CutCore)
}

// anyRadii returns radii that keep most of the rules of a blank of small numbers.
func anyRadii(r *rand.Rand, b api.Blank, n int) []int64 {
	l := make([]int64, n)
	at := b.Rim - r.Int63n(10)
	for i := range l {
		at -= b.Slow - r.Int63n(2) + r.Int63n(b.Fast-b.Slow+2)
		l[i] = at
	}
	return l
}

// P5.3
func TestCheckCutByDefinition(t *testing.T) {
	r := rand.New(rand.NewSource(53))
	var rules [api.CutLand + 1]int
	for range 40000 {
		b := someBlank(r)
		n := r.Intn(6)
		l, cut := someGroove(r, n), anyRadii(r, b, n)
		index, rule := wantedBroken(b, l, cut)
		checkBroken(t, "", b, l, cut, index, rule)
		rules[rule]++
		if t.Failed() {
			t.Fatalf("the cut %v of %v on %v", cut, l, b)
		}
	}
	for rule, n := range rules {
		if n < 1000 {
			t.Errorf("only %d cuts with the rule %d", n, rule)
		}
	}
}

// P5.5: the chapter's examples.
func TestLandExamples(t *testing.T) {
	if i, n, e := lathe.Tightest(blank(), points(), radii()); i != 2 || n != 10 || e != api.OK {
		t.Errorf("Tightest: %d, %d, %d", i, n, e)
	}
	if n, e := lathe.Land(blank(), points(), radii(), 4); n != 10 || e != api.OK {
		t.Errorf("Land at 4: %d, %d", n, e)
	}
}

// P5.5: samples without a turn before, and grooves without a second turn.
func TestNoLand(t *testing.T) {
	for i, want := range map[int]api.Errno{
		-1: api.ErrRange, 0: api.ErrRange, 1: api.ErrRange, 2: api.OK, 3: api.OK, 4: api.OK, 5: api.ErrRange, 6: api.ErrRange,
		-1 << 63: api.ErrRange, 1<<63 - 1: api.ErrRange,
	} {
		if n, e := lathe.Land(blank(), points(), radii(), i); e != want || e != api.OK && n != 0 {
			t.Errorf("Land at %d: %d, %d", i, n, e)
		}
	}
	b := blank()
	for per, want := range map[int64]api.Errno{1: api.OK, 4: api.OK, 5: api.ErrNone, 6: api.ErrNone, api.MaxPer: api.ErrNone} {
		b.Per = per
		if i, n, e := lathe.Tightest(b, points(), radii()); e != want || e != api.OK && (i != 0 || n != 0) {
			t.Errorf("Tightest with %d in a turn: %d, %d, %d", per, i, n, e)
		}
		wantLand := api.ErrRange
		if per < 5 {
			wantLand = api.OK
		}
		if n, e := lathe.Land(b, points(), radii(), 4); e != wantLand || e != api.OK && n != 0 {
			t.Errorf("Land with %d in a turn: %d, %d", per, n, e)
		}
	}
	if _, _, e := lathe.Tightest(b, nil, nil); e != api.ErrNone {
		t.Errorf("Tightest of nothing: %d", e)
	}
	if _, e := lathe.Land(b, nil, nil, 0); e != api.ErrRange {
		t.Errorf("Land of nothing: %d", e)
	}
}

// P5.5: at the limits, and of cuts that keep no rule.
func TestLandAtLimits(t *testing.T) {
	b := api.Blank{Per: 1}
	l := []api.Point{{In: -api.MaxEdge}, {Out: api.MaxEdge}, {In: api.MaxEdge}, {Out: -api.MaxEdge}}
	r := []int64{-api.MaxPlace, api.MaxPlace, api.MaxPlace, -api.MaxPlace}
	const most = 2 * (api.MaxPlace + api.MaxEdge)
	for i, want := range map[int]int64{1: -most, 2: 0, 3: most} {
		if n, e := lathe.Land(b, l, r, i); n != want || e != api.OK {
			t.Errorf("Land at %d: %d, %d, not %d", i, n, e, want)
		}
	}
	if i, n, e := lathe.Tightest(b, l, r); i != 1 || n != -most || e != api.OK {
		t.Errorf("Tightest: %d, %d, %d", i, n, e)
	}
	if i, n, e := lathe.Tightest(b, l[2:], r[2:]); i != 1 || n != most || e != api.OK {
		t.Errorf("Tightest of the last two: %d, %d, %d", i, n, e)
	}
}

// P5.5: Tightest is the first one of the least lands.
func TestTightestByDefinition(t *testing.T) {
	r := rand.New(rand.NewSource(55))
	later := 0
	for range 20000 {
		b := someBlank(r)
		n := int(b.Per) + 1 + r.Intn(5)
		l, cut := someGroove(r, n), anyRadii(r, b, n)
		at, least := 0, int64(0)
		for i := int(b.Per); i < n; i++ {
			land := (cut[i-int(b.Per)] + l[i-int(b.Per)].In) - (cut[i] + l[i].Out)
			if got, e := lathe.Land(b, l, cut, i); got != land || e != api.OK {
				t.Fatalf("Land at %d of %v, %v on %v: %d, %d, not %d", i, l, cut, b, got, e, land)
			}
			if at == 0 || land < least {
				at, least = i, land
			}
		}
		if at > int(b.Per) {
			later++
		}
		if i, land, e := lathe.Tightest(b, l, cut); i != at || land != least || e != api.OK {
			t.Fatalf("Tightest of %v, %v on %v: %d, %d, %d, not %d, %d", l, cut, b, i, land, e, at, least)
		}
	}
	if later < 1000 {
		t.Errorf("only %d cuts are the tightest later", later)
	}
}
