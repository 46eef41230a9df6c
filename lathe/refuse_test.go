package lathe_test

import (
	"math/rand"
	"slices"
	"testing"

	"deadwax/api"
	"deadwax/lathe"
)

// steps are pairs of rules and samples.
func steps(l ...[2]int) []api.Step {
	var p []api.Step
	for _, x := range l {
		p = append(p, api.Step{Rule: x[0], At: x[1]})
	}
	return p
}

// checkProof holds what CheckRefusal says against the chapter's definition.
func checkProof(t *testing.T, b api.Blank, l []api.Point, p []api.Step) bool {
	t.Helper()
	proof := wantedProof(b, l, p)
	want := api.OK
	if !proof {
		want = api.ErrSum
	}
	if e := lathe.CheckRefusal(b, l, p); e != want {
		t.Fatalf("CheckRefusal of %v for %v on %v: %d, not %d", p, l, b, e, want)
	}
	return proof
}

// refuse returns the proof of Refuse, which has to be one.
func refuse(t *testing.T, b api.Blank, l []api.Point) []api.Step {
	t.Helper()
	p, e := lathe.Refuse(b, l)
	if e != api.OK || !checkProof(t, b, l, p) {
		t.Fatalf("Refuse of %v on %v: %v, %d", l, b, p, e)
	}
	return p
}

// P5.4: the chapter's example.
func TestRefuseExamples(t *testing.T) {
	b := blank()
	if p, e := lathe.Refuse(b, points()); len(p) != 0 || e != api.ErrNone {
		t.Errorf("what fits: %v, %d", p, e)
	}
	if p, e := lathe.Refuse(b, nil); len(p) != 0 || e != api.ErrNone {
		t.Errorf("no points: %v, %d", p, e)
	}
	b.Core = 861
	refuse(t, b, points())
	p := steps([2]int{api.CutRim, 0}, [2]int{api.CutLand, 2}, [2]int{api.CutLand, 4}, [2]int{api.CutCore, 4})
	if e := lathe.CheckRefusal(b, points(), p); e != api.OK {
		t.Errorf("the chapter's proof: %d", e)
	}
	b.Core = 860 // now the sum is 0
	if e := lathe.CheckRefusal(b, points(), p); e != api.ErrSum {
		t.Errorf("the chapter's proof with room for all: %d", e)
	}
	b.Fast = 39
	refuse(t, b, points())
}

// P5.4: a sum of 0, and of just below it, and what else is not a proof.
func TestCheckRefusal(t *testing.T) {
	rim, core, slow, fast, land := api.CutRim, api.CutCore, api.CutSlow, api.CutFast, api.CutLand
	tight := api.Blank{Per: 2, Rim: 10, Core: 9, Land: 50, Slow: 1, Fast: 3}
	l := make([]api.Point, 4)
	for name, x := range map[string]struct {
		p    []api.Step
		want api.Errno
	}{
		"nothing":                      {nil, api.ErrSum},
		"a path":                       {steps([2]int{rim, 1}, [2]int{slow, 2}, [2]int{slow, 3}, [2]int{core, 3}), api.OK},
		"a path with the sum 0":        {steps([2]int{rim, 1}, [2]int{slow, 2}, [2]int{core, 2}), api.ErrSum},
		"a path back and forth":        {steps([2]int{rim, 1}, [2]int{land, 3}, [2]int{fast, 3}, [2]int{fast, 2}, [2]int{slow, 2}, [2]int{core, 2}), api.OK},
		"a circle":                     {steps([2]int{land, 2}, [2]int{fast, 2}, [2]int{fast, 1}), api.OK},
		"a circle from elsewhere":      {steps([2]int{fast, 1}, [2]int{land, 2}, [2]int{fast, 2}), api.OK},
		"a circle two times":           {steps([2]int{land, 2}, [2]int{fast, 2}, [2]int{fast, 1}, [2]int{land, 2}, [2]int{fast, 2}, [2]int{fast, 1}), api.OK},
		"a circle with a good sum":     {steps([2]int{slow, 2}, [2]int{fast, 2}), api.ErrSum},
		"no circle":                    {steps([2]int{land, 2}, [2]int{fast, 2}), api.ErrSum},
		"a gap in a circle":            {steps([2]int{land, 2}, [2]int{fast, 3}, [2]int{fast, 1}), api.ErrSum},
		"a gap in a path":              {steps([2]int{rim, 1}, [2]int{land, 2}, [2]int{core, 2}), api.ErrSum},
		"a gap before the core":        {steps([2]int{rim, 0}, [2]int{land, 2}, [2]int{core, 1}), api.ErrSum},
		"a path without an end":        {steps([2]int{rim, 0}, [2]int{land, 2}), api.ErrSum},
		"a path without a beginning":   {steps([2]int{land, 2}, [2]int{core, 2}), api.ErrSum},
		"the rim alone":                {steps([2]int{rim, 0}), api.ErrSum},
		"the core alone":               {steps([2]int{core, 0}), api.ErrSum},
		"a path turned round":          {steps([2]int{core, 2}, [2]int{rim, 0}, [2]int{land, 2}), api.ErrSum},
		"the core first":               {steps([2]int{core, 2}, [2]int{rim, 2}), api.ErrSum},
		"two paths":                    {steps([2]int{rim, 0}, [2]int{land, 2}, [2]int{core, 2}, [2]int{rim, 0}, [2]int{land, 2}, [2]int{core, 2}), api.ErrSum},
		"a path and a circle behind":   {steps([2]int{rim, 0}, [2]int{land, 2}, [2]int{core, 2}, [2]int{land, 2}, [2]int{fast, 2}, [2]int{fast, 1}), api.ErrSum},
		"a path and a circle in it":    {steps([2]int{rim, 0}, [2]int{land, 2}, [2]int{fast, 2}, [2]int{fast, 1}, [2]int{core, 0}), api.OK},
		"land of the first turn":       {steps([2]int{land, 1}, [2]int{fast, 1}), api.ErrSum},
		"slow at 0":                    {steps([2]int{rim, 0}, [2]int{slow, 0}, [2]int{core, 0}), api.ErrSum},
		"fast at 0":                    {steps([2]int{fast, 0}, [2]int{land, 1}), api.ErrSum},
		"a sample behind the last one": {steps([2]int{land, 4}, [2]int{fast, 4}, [2]int{fast, 3}), api.ErrSum},
		"a sample before the first":    {steps([2]int{rim, -1}, [2]int{core, -1}), api.ErrSum},
		"a circle and a sample -1":     {steps([2]int{land, 2}, [2]int{fast, 2}, [2]int{fast, 1}, [2]int{slow, -1}), api.ErrSum},
		"a circle and a sample 4":      {steps([2]int{land, 2}, [2]int{fast, 2}, [2]int{fast, 1}, [2]int{rim, 4}), api.ErrSum},
		"the rule 0":                   {steps([2]int{rim, 0}, [2]int{land, 2}, [2]int{0, 2}, [2]int{core, 2}), api.ErrSum},
		"the rule 6":                   {steps([2]int{6, 2}), api.ErrSum},
		"the rule -1":                  {steps([2]int{-1, 2}), api.ErrSum},
	} {
		if e := lathe.CheckRefusal(tight, l, x.p); e != x.want {
			t.Errorf("%s: %d", name, e)
		}
		checkProof(t, tight, l, x.p)
	}
	if e := lathe.CheckRefusal(tight, nil, steps([2]int{rim, 0}, [2]int{core, 0})); e != api.ErrSum {
		t.Errorf("without points: %d", e)
	}
}

// P5.4: proofs of 16,384 steps and of one more.
func TestCheckRefusalOfManySteps(t *testing.T) {
	b := api.Blank{Per: 1, Rim: 10, Land: 9, Fast: 8}
	l := make([]api.Point, 2)
	circle := steps([2]int{api.CutLand, 1}, [2]int{api.CutFast, 1})
	most := slices.Repeat(circle, api.MaxSteps/2)
	if e := lathe.CheckRefusal(b, l, most); e != api.OK {
		t.Errorf("%d steps: %d", len(most), e)
	}
	for _, more := range [][]api.Step{append(most, circle[0]), append(most, circle...), append(most, api.Step{})} {
		if e := lathe.CheckRefusal(b, l, more); e != api.ErrMany {
			t.Errorf("%d steps: %d", len(more), e)
		}
	}
	if e := lathe.CheckRefusal(b, nil, make([]api.Step, api.MaxSteps+1)); e != api.ErrMany {
		t.Errorf("too many that are not right: %d", e)
	}
	if e := lathe.CheckRefusal(b, l, make([]api.Step, api.MaxSteps)); e != api.ErrSum {
		t.Errorf("%d that are not right: %d", api.MaxSteps, e)
	}
}

// P5.4, P5.9: what does not fit is refused, and nothing else.
func TestRefuseByDefinition(t *testing.T) {
	r := rand.New(rand.NewSource(54))
	fit, paths, circles := 0, 0, 0
	for range 30000 {
		b, l := someBlank(r), someGroove(r, r.Intn(16))
		if _, ok := wantedOutermost(b, l); ok {
			fit++
			if p, e := lathe.Refuse(b, l); len(p) != 0 || e != api.ErrNone {
				t.Fatalf("%v on %v, which fits: %v, %d", l, b, p, e)
			}
			continue
		}
		if _, e := lathe.Outermost(b, l); e != api.ErrPlan {
			t.Fatalf("%v on %v, which does not fit: %d", l, b, e)
		}
		switch p := refuse(t, b, l); {
		case p[0].Rule != api.CutRim:
			circles++
		case len(p) > 4:
			paths++
		}
	}
	if fit < 3000 || paths < 1000 || circles < 2000 {
		t.Errorf("only %d grooves fit; %d are refused by paths, and %d by circles", fit, paths, circles)
	}
}

// P5.4, P5.9: no steps that are accepted prove what is not so. Most of the steps go on from where the ones before them end.
func TestNoFalseProof(t *testing.T) {
	r := rand.New(rand.NewSource(59))
	accepted := 0
	for range 60000 {
		b := someBlank(r)
		b.Fast, b.Rim = b.Slow+r.Int63n(3), b.Core+r.Int63n(30)
		l := someGroove(r, 1+r.Intn(5))
		p := someSteps(r, b, l)
		if !checkProof(t, b, l, p) {
			continue
		}
		accepted++
		if _, ok := wantedOutermost(b, l); ok {
			t.Fatalf("%v is accepted for %v on %v, which fits", p, l, b)
		}
		if _, e := lathe.Outermost(b, l); e != api.ErrPlan {
			t.Fatalf("%v on %v is refused by %v, and Outermost says %d", l, b, p, e)
		}
	}
	if accepted < 2000 {
		t.Errorf("only %d proofs", accepted)
	}
}

// someSteps returns steps most of which begin where the one before ends, and which often end at the core or where they begin.
func someSteps(r *rand.Rand, b api.Blank, l []api.Point) []api.Step {
	x := api.Step{Rule: 1 + r.Intn(5), At: r.Intn(len(l))}
	if r.Intn(2) == 0 {
		x.Rule = api.CutRim
	}
	p := []api.Step{x}
	begin, at, _, _ := says(b, l, x)
	for len(p) < 12 {
		var next []api.Step
		for i := range l {
			for rule := api.CutRim; rule <= api.CutLand; rule++ {
				if from, _, _, ok := says(b, l, api.Step{Rule: rule, At: i}); ok && from == at || r.Intn(300) == 0 {
					next = append(next, api.Step{Rule: rule, At: i})
				}
			}
		}
		if len(next) == 0 {
			return p
		}
		x = next[r.Intn(len(next))]
		p = append(p, x)
		_, at, _, _ = says(b, l, x)
		if at == begin && r.Intn(3) > 0 {
			return p
		}
	}
	return p
}

// P5.4, P5.9: long proofs, and edges of any size.
func TestLongProofs(t *testing.T) {
	const n = api.MaxLong
	flat := make([]api.Point, n)
	b := api.Blank{Per: n, Rim: n - 2, Slow: 1, Fast: 1}
	if p := refuse(t, b, flat); len(p) != n+1 {
		t.Errorf("a path of %d steps", len(p))
	}
	b = api.Blank{Per: n - 1, Rim: api.MaxRadius, Land: n, Fast: 1}
	if p := refuse(t, b, flat); len(p) != n {
		t.Errorf("a circle of %d steps", len(p))
	}
	r := rand.New(rand.NewSource(64))
	for range 300 {
		b := api.Blank{Per: upTo(r, 1, 40), Rim: api.MaxRadius, Land: upTo(r, 0, api.MaxLand), Fast: upTo(r, 0, api.MaxInward)}
		l := wild(r, 100)
		n := fits(t, b, l)
		checkBroken(t, "what fits of edges of any size", b, l[:n], outermost(t, b, l[:n]), 0, 0)
		if n < len(l) {
			refuse(t, b, l)
		}
	}
}
