package take_test

import (
	"math"
	"math/rand"
	"slices"
	"strings"
	"testing"

	"deadwax/api"
	"deadwax/take"
)

func TestExamplesAreValid(t *testing.T) {
	if e := take.CheckTakes(exampleTakes()); e != api.OK {
		t.Errorf("CheckTakes: %d", e)
	}
	if e := take.CheckProgramme(exampleTakes(), exampleParts()); e != api.OK {
		t.Errorf("CheckProgramme: %d", e)
	}
}

// P1.1
func TestCheckTakesMany(t *testing.T) {
	long := loudTake("long", api.MaxLong)
	tooLong := loudTake("long", api.MaxLong+1)
	bad := api.Take{Name: "A"}
	full := many(api.MaxTakes)
	for i := range full {
		full[i].Data = long.Data
	}
	for _, c := range []struct {
		name string
		l    []api.Take
		want api.Errno
	}{
		{"none", nil, api.ErrMany},
		{"an empty list", []api.Take{}, api.ErrMany},
		{"one", many(1), api.OK},
		{"16", many(api.MaxTakes), api.OK},
		{"16 of the greatest length", full, api.OK},
		{"17", many(api.MaxTakes + 1), api.ErrMany},
		{"17 that are not valid", make([]api.Take, api.MaxTakes+1), api.ErrMany},
		{"4,096 samples", []api.Take{long}, api.OK},
		{"4,097 samples", []api.Take{tooLong}, api.ErrMany},
		{"4,097 samples at last", append(many(3), tooLong), api.ErrMany},
		{"4,097 samples after one that is not valid", []api.Take{bad, tooLong}, api.ErrMany},
		{"4,097 samples after two with the same name", append(many(1), many(1)[0], tooLong), api.ErrMany},
		{"4,097 samples and no name", []api.Take{{Data: tooLong.Data}}, api.ErrMany},
		{"4,097 samples that are not valid", []api.Take{{Name: "a", Data: slices.Repeat([]api.Sample{{L: 1 << 20}}, api.MaxLong+1)}}, api.ErrMany},
	} {
		if e := take.CheckTakes(c.l); e != c.want {
			t.Errorf("%s: %d, not %d", c.name, e, c.want)
		}
	}
}

// P1.1
func TestCheckTakesNames(t *testing.T) {
	one := []api.Sample{{L: 1}}
	for _, name := range []string{"a", "z", "0", "9", "az09", "007", strings.Repeat("x", api.MaxName)} {
		if e := take.CheckTakes([]api.Take{{Name: name, Data: one}}); e != api.OK {
			t.Errorf("name %q: %d", name, e)
		}
	}
	bad := []string{"", strings.Repeat("x", api.MaxName+1), "A", "Z", "`", "{", "/", ":", " ", "a b", " a", "a ", "a\n", "a-b", "_", "\x00", "\xff", "é", "aé", "ª", "٣", "a.", strings.Repeat("é", 10)}
	for c := range 256 {
		if (c < '0' || c > '9') && (c < 'a' || c > 'z') {
			bad = append(bad, "a"+string([]byte{byte(c)})+"b")
		}
	}
	for _, name := range bad {
		if e := take.CheckTakes([]api.Take{{Name: name, Data: one}}); e != api.ErrArg {
			t.Errorf("name %q: %d", name, e)
		}
	}
}

// invalidSamples are those whose amount is too great in a channel.
func invalidSamples() []api.Sample {
	var l []api.Sample
	for _, x := range []int64{api.MaxSample + 1, -api.MaxSample - 1, 1 << 32, math.MaxInt64, math.MinInt64, math.MinInt64 + 1} {
		l = append(l, api.Sample{L: x}, api.Sample{R: x}, api.Sample{L: x, R: x})
	}
	return l
}

// P1.1
func TestCheckTakesSamples(t *testing.T) {
	ends := []api.Sample{{L: api.MaxSample, R: -api.MaxSample}, {L: -api.MaxSample, R: api.MaxSample}}
	if e := take.CheckTakes([]api.Take{{Name: "a", Data: ends}}); e != api.OK {
		t.Errorf("the greatest amounts: %d", e)
	}
	for _, data := range [][]api.Sample{nil, {}} {
		if e := take.CheckTakes(append(many(1), api.Take{Name: "a", Data: data})); e != api.ErrArg {
			t.Errorf("no samples: %d", e)
		}
	}
	for _, s := range invalidSamples() {
		for at := range 3 {
			data := make([]api.Sample, 3)
			data[at] = s
			if e := take.CheckTakes(append(many(2), api.Take{Name: "a", Data: data})); e != api.ErrArg {
				t.Errorf("%v at %d: %d", s, at, e)
			}
		}
	}
}

// P1.1
func TestCheckTakesSameName(t *testing.T) {
	for i := range api.MaxTakes {
		for j := range i {
			l := many(api.MaxTakes)
			l[i].Name = l[j].Name
			if e := take.CheckTakes(l); e != api.ErrHave {
				t.Errorf("%d and %d: %d", j, i, e)
			}
		}
	}
	twice := append(many(2), many(2)...)
	if e := take.CheckTakes(append(twice, api.Take{Name: "c"})); e != api.ErrArg {
		t.Errorf("a take that is not valid after two with the same name: %d", e)
	}
	if e := take.CheckTakes(append([]api.Take{{Name: "c", Data: []api.Sample{{R: 1 << 15}}}}, twice...)); e != api.ErrArg {
		t.Errorf("a take that is not valid before two with the same name: %d", e)
	}
	alike := []api.Take{{Name: "a", Data: []api.Sample{{}}}, {Name: "aa", Data: []api.Sample{{}}}, {Name: "ab", Data: []api.Sample{{}}}, {Name: "0a", Data: []api.Sample{{}}}}
	if e := take.CheckTakes(alike); e != api.OK {
		t.Errorf("names that are alike: %d", e)
	}
}

// P1.2
func TestCheckProgrammeParts(t *testing.T) {
	l := []api.Take{loudTake("a", 4), loudTake("b", api.MaxLong)}
	good := api.Part{To: 4, Level: 1000}
	for _, c := range []struct {
		name   string
		change func(p *api.Part)
		want   api.Errno
	}{
		{"as it is", func(p *api.Part) {}, api.OK},
		{"the take 1", func(p *api.Part) { p.Take = 1 }, api.OK},
		{"the take -1", func(p *api.Part) { p.Take = -1 }, api.ErrArg},
		{"the take 2", func(p *api.Part) { p.Take = 2 }, api.ErrArg},
		{"the least take", func(p *api.Part) { p.Take = math.MinInt }, api.ErrArg},
		{"the greatest take", func(p *api.Part) { p.Take = math.MaxInt }, api.ErrArg},
		{"From 3", func(p *api.Part) { p.From = 3 }, api.OK},
		{"From -1", func(p *api.Part) { p.From = -1 }, api.ErrArg},
		{"From equal to To", func(p *api.Part) { p.From = 4 }, api.ErrArg},
		{"From 0 and To 0", func(p *api.Part) { p.To = 0 }, api.ErrArg},
		{"From greater than To", func(p *api.Part) { p.From, p.To = 3, 2 }, api.ErrArg},
		{"To 1", func(p *api.Part) { p.To = 1 }, api.OK},
		{"To 5", func(p *api.Part) { p.To = 5 }, api.ErrArg},
		{"To 5 of the other take", func(p *api.Part) { p.Take, p.To = 1, 5 }, api.OK},
		{"To 4,096", func(p *api.Part) { p.Take, p.To = 1, api.MaxLong }, api.OK},
		{"To 4,097", func(p *api.Part) { p.Take, p.To = 1, api.MaxLong+1 }, api.ErrArg},
		{"the least From", func(p *api.Part) { p.From = math.MinInt }, api.ErrArg},
		{"the greatest To", func(p *api.Part) { p.To = math.MaxInt }, api.ErrArg},
		{"the widest part", func(p *api.Part) { p.From, p.To = math.MinInt, math.MaxInt }, api.ErrArg},
		{"Gap 4,092", func(p *api.Part) { p.Gap = api.MaxLong - 4 }, api.OK},
		{"Gap 4,096", func(p *api.Part) { p.Gap = api.MaxLong }, api.ErrPlan},
		{"Gap 4,097", func(p *api.Part) { p.Gap = api.MaxLong + 1 }, api.ErrArg},
		{"Gap -4,096", func(p *api.Part) { p.Gap = -api.MaxLong }, api.ErrPlan},
		{"Gap -4,097", func(p *api.Part) { p.Gap = -api.MaxLong - 1 }, api.ErrArg},
		{"the least Gap", func(p *api.Part) { p.Gap = math.MinInt }, api.ErrArg},
		{"the greatest Gap", func(p *api.Part) { p.Gap = math.MaxInt }, api.ErrArg},
		{"In 1,000", func(p *api.Part) { p.In = api.MaxFade }, api.OK},
		{"In 1,001", func(p *api.Part) { p.In = api.MaxFade + 1 }, api.ErrArg},
		{"In -1", func(p *api.Part) { p.In = -1 }, api.ErrArg},
		{"the least In", func(p *api.Part) { p.In = math.MinInt }, api.ErrArg},
		{"Out 1,000", func(p *api.Part) { p.Out = api.MaxFade }, api.OK},
		{"Out 1,001", func(p *api.Part) { p.Out = api.MaxFade + 1 }, api.ErrArg},
		{"Out -1", func(p *api.Part) { p.Out = -1 }, api.ErrArg},
		{"the greatest Out", func(p *api.Part) { p.Out = math.MaxInt }, api.ErrArg},
		{"Level 0", func(p *api.Part) { p.Level = 0 }, api.OK},
		{"Level 4,000", func(p *api.Part) { p.Level = api.MaxLevel }, api.OK},
		{"Level 4,001", func(p *api.Part) { p.Level = api.MaxLevel + 1 }, api.ErrArg},
		{"Level -1", func(p *api.Part) { p.Level = -1 }, api.ErrArg},
		{"the least Level", func(p *api.Part) { p.Level = math.MinInt64 }, api.ErrArg},
		{"the greatest Level", func(p *api.Part) { p.Level = math.MaxInt64 }, api.ErrArg},
	} {
		p := good
		c.change(&p)
		if e := take.CheckProgramme(l, []api.Part{p}); e != c.want {
			t.Errorf("%s: %d, not %d", c.name, e, c.want)
		}
		if c.want == api.ErrArg {
			if e := take.CheckProgramme(l, []api.Part{good, good, p}); e != api.ErrArg {
				t.Errorf("%s, as the last of three: %d", c.name, e)
			}
		}
	}
}

// P1.2
func TestCheckProgrammeOrder(t *testing.T) {
	l := exampleTakes()
	good, bad := api.Part{To: 4}, api.Part{To: 5}
	for _, c := range []struct {
		name string
		p    []api.Part
		want api.Errno
	}{
		{"no parts", nil, api.OK},
		{"an empty list", []api.Part{}, api.OK},
		{"32 parts", repeated(good, api.MaxParts), api.OK},
		{"33 parts", repeated(good, api.MaxParts+1), api.ErrMany},
		{"33 parts that are not valid", repeated(bad, api.MaxParts+1), api.ErrMany},
		{"33 parts that are not possible", repeated(api.Part{To: 4, Gap: -1}, api.MaxParts+1), api.ErrMany},
		{"not possible, then not valid", []api.Part{{To: 4, Gap: -1}, bad}, api.ErrArg},
		{"not valid, then not possible", []api.Part{bad, {To: 4, Gap: -5}}, api.ErrArg},
		{"not possible", []api.Part{good, {To: 4, Gap: -5}}, api.ErrPlan},
	} {
		if e := take.CheckProgramme(l, c.p); e != c.want {
			t.Errorf("%s: %d, not %d", c.name, e, c.want)
		}
	}
}

// P1.2
func TestCheckProgrammePossible(t *testing.T) {
	l := []api.Take{loudTake("a", 10), loudTake("b", api.MaxLong)}
	part := func(long, gap int) api.Part { return api.Part{To: long, Gap: gap} }
	full := api.Part{Take: 1, To: api.MaxLong}
	again := full
	again.Gap = -api.MaxLong
	for _, c := range []struct {
		name string
		p    []api.Part
		want api.Errno
	}{
		{"the first part at 0", []api.Part{part(4, 0)}, api.OK},
		{"the first part at -1", []api.Part{part(4, -1)}, api.ErrPlan},
		{"a gap of minus both lengths", []api.Part{part(4, 0), part(4, -4)}, api.OK},
		{"a gap of minus the length of its part", []api.Part{part(6, 0), part(4, -4)}, api.OK},
		{"a gap less than minus the length of its part", []api.Part{part(6, 0), part(4, -5)}, api.ErrPlan},
		{"a gap of minus the length of the part before", []api.Part{part(4, 0), part(6, -4)}, api.OK},
		{"a gap less than minus the length of the part before", []api.Part{part(4, 3), part(6, -5)}, api.ErrPlan},
		{"the third part at the end of the first one", []api.Part{part(6, 0), part(5, -2), part(5, -3)}, api.OK},
		{"the third part before the end of the first one", []api.Part{part(6, 0), part(5, -2), part(5, -4)}, api.ErrPlan},
		{"the fourth part before the end of the second one", []api.Part{part(6, 0), part(5, 0), part(4, -2), part(4, -3)}, api.ErrPlan},
		{"the fourth part at the end of the second one", []api.Part{part(6, 0), part(5, 0), part(4, -2), part(4, -2)}, api.OK},
		{"a length of 4,096", []api.Part{full}, api.OK},
		{"a length of 4,096 twice at once", []api.Part{full, again}, api.OK},
		{"a length of 4,097", []api.Part{full, part(1, 0)}, api.ErrPlan},
		{"a gap before 4,096", []api.Part{part(1, api.MaxLong-1)}, api.OK},
		{"a gap before 4,097", []api.Part{part(2, api.MaxLong-1)}, api.ErrPlan},
		{"a last part within the end", []api.Part{full, part(1, -1)}, api.OK},
		{"the longest programme of 32 parts", repeated(api.Part{Take: 1, To: 128}, 32), api.OK},
		{"gaps that are too long", repeated(api.Part{To: 1, Gap: api.MaxLong}, 32), api.ErrPlan},
		{"far too long", repeated(full, 32), api.ErrPlan},
	} {
		if e := take.CheckProgramme(l, c.p); e != c.want {
			t.Errorf("%s: %d, not %d", c.name, e, c.want)
		}
	}
}

// P1.2
func TestCheckProgrammeByDefinition(t *testing.T) {
	r := rand.New(rand.NewSource(2))
	for range 20000 {
		l := someTakes(r, 10)
		p := someParts(r, l, 4)
		want := api.OK
		if !wantedPossible(p) {
			want = api.ErrPlan
		}
		if e := take.CheckProgramme(l, p); e != want {
			t.Fatalf("%v %+v: %d, not %d", l, p, e, want)
		}
	}
}

// P1.3
func TestCheckSamples(t *testing.T) {
	long := loudTake("a", api.MaxLong).Data
	longer := make([]api.Sample, api.MaxLong+1)
	worse := slices.Repeat([]api.Sample{{L: 1 << 15}}, api.MaxLong+1)
	for _, c := range []struct {
		name string
		s    []api.Sample
		want api.Errno
	}{
		{"none", nil, api.OK},
		{"an empty list", []api.Sample{}, api.OK},
		{"4,096", long, api.OK},
		{"4,097", longer, api.ErrMany},
		{"4,097 that are not valid", worse, api.ErrMany},
		{"the greatest amounts", []api.Sample{{L: api.MaxSample, R: -api.MaxSample}, {L: -api.MaxSample, R: api.MaxSample}}, api.OK},
	} {
		if e := take.CheckSamples(c.s); e != c.want {
			t.Errorf("%s: %d, not %d", c.name, e, c.want)
		}
	}
	for _, s := range invalidSamples() {
		for at := range 3 {
			l := make([]api.Sample, 3)
			l[at] = s
			if e := take.CheckSamples(l); e != api.ErrArg {
				t.Errorf("%v at %d: %d", s, at, e)
			}
		}
	}
}

// withTakes calls each function that has takes and a programme, with n for all its numbers: it reports whether all other results are zero values, and the error.
func withTakes(l []api.Take, p []api.Part, n int) map[string]func() (bool, api.Errno) {
	return map[string]func() (bool, api.Errno){
		"CheckProgramme": func() (bool, api.Errno) { return true, take.CheckProgramme(l, p) },
		"Starts": func() (bool, api.Errno) {
			s, end, e := take.Starts(l, p)
			return len(s) == 0 && end == 0, e
		},
		"Sources": func() (bool, api.Errno) {
			s, e := take.Sources(l, p, n)
			return len(s) == 0, e
		},
		"Sound": func() (bool, api.Errno) {
			s, e := take.Sound(l, p, n, n)
			return s == api.Sample{}, e
		},
		"Render": func() (bool, api.Errno) {
			s, e := take.Render(l, p)
			return len(s) == 0, e
		},
		"Headroom": func() (bool, api.Errno) {
			f, e := take.Headroom(l, p)
			return f == 0, e
		},
		"Split": func() (bool, api.Errno) {
			a, b, e := take.Split(l, p, n)
			return len(a) == 0 && len(b) == 0, e
		},
		"Text": func() (bool, api.Errno) {
			s, e := take.Text(l, p)
			return s == "", e
		},
	}
}

// P1.1, P1.2 and the first sentence of the promises: errors of takes come before those of programmes, and both before all others.
func TestErrorsOfTakesAndProgrammesFirst(t *testing.T) {
	twice := append(exampleTakes(), exampleTakes()...)
	unnamed := append([]api.Take{{}}, exampleTakes()...)
	for _, c := range []struct {
		name string
		l    []api.Take
		p    []api.Part
		want api.Errno
	}{
		{"no takes", nil, repeated(api.Part{}, 33), api.ErrMany},
		{"takes that are not valid", unnamed, repeated(api.Part{}, 33), api.ErrArg},
		{"the same name twice", twice, repeated(api.Part{}, 33), api.ErrHave},
		{"the same name twice, and a part that is not valid", twice, []api.Part{{To: 5}}, api.ErrHave},
		{"too many parts", exampleTakes(), repeated(api.Part{To: 1}, 33), api.ErrMany},
		{"a part that is not valid", exampleTakes(), []api.Part{{To: 5}}, api.ErrArg},
		{"not possible", exampleTakes(), []api.Part{{To: 4, Gap: -1}}, api.ErrPlan},
	} {
		for _, n := range []int{0, -1, 1 << 20} {
			for name, f := range withTakes(c.l, c.p, n) {
				if zero, e := f(); e != c.want || !zero {
					t.Errorf("%s, %s, %d: %d, not %d (zero values: %v)", c.name, name, n, e, c.want, zero)
				}
			}
		}
	}
	for _, s := range []string{"", "?", strings.Repeat("x", api.MaxText+1)} {
		if p, e := take.Parse(nil, s); e != api.ErrMany || len(p) != 0 {
			t.Errorf("Parse with no takes: %v %d", p, e)
		}
		if p, e := take.Parse(unnamed, s); e != api.ErrArg || len(p) != 0 {
			t.Errorf("Parse with takes that are not valid: %v %d", p, e)
		}
		if p, e := take.Parse(twice, s); e != api.ErrHave || len(p) != 0 {
			t.Errorf("Parse with the same name twice: %v %d", p, e)
		}
	}
}

// P1.3 and the first sentence of the promises.
func TestErrorsOfSamplesFirst(t *testing.T) {
	bad := map[api.Errno][]api.Sample{
		api.ErrMany: make([]api.Sample, api.MaxLong+1),
		api.ErrArg:  {{L: 1}, {R: api.MaxSample + 1}},
	}
	for want, s := range bad {
		if p, e := take.Peak(s); e != want || p != (api.Sample{}) {
			t.Errorf("Peak: %v %d, not %d", p, e, want)
		}
		if l, r, e := take.Energy(s); e != want || l != 0 || r != 0 {
			t.Errorf("Energy: %d %d %d, not %d", l, r, e, want)
		}
		for _, least := range []int{1, 0} {
			if q, e := take.Silences(s, int64(least)-1, least); e != want || len(q) != 0 {
				t.Errorf("Silences: %v %d, not %d", q, e, want)
			}
		}
	}
}

// Rules R1 to R6 and the promise P1 of the document: every function ends, for all arguments, and changes none of them.
func TestAnyArguments(t *testing.T) {
	lists := [][]api.Take{nil, exampleTakes(), make([]api.Take, 3), {{Name: "a", Data: invalidSamples()}}, {loudTake("a", api.MaxLong+1)}}
	for _, x := range extremes() {
		for _, y := range extremes() {
			programmes := [][]api.Part{
				nil, exampleParts(),
				{{Take: x, From: y, To: x, Gap: y, In: x, Out: y, Level: int64(x)}},
				{{From: x, To: y}}, {{To: 1, Gap: x, Level: int64(y)}}, {{To: 1, In: x, Out: y}},
				{{To: 2}, {To: 2, Gap: x}, {To: 1, Gap: y}},
			}
			for _, l := range lists {
				for _, p := range programmes {
					kept, parts := copyTakes(l), slices.Clone(p)
					for _, f := range withTakes(l, p, x) {
						f()
					}
					take.Sound(l, p, x, y)
					take.Silences(firstSamples(l), int64(x), y)
					take.Peak(firstSamples(l))
					take.Energy(firstSamples(l))
					if !slices.EqualFunc(l, kept, sameTake) || !slices.Equal(p, parts) {
						t.Fatalf("an argument was changed: %v %v", l, p)
					}
				}
			}
		}
	}
}

// firstSamples returns the samples of the first take.
func firstSamples(l []api.Take) []api.Sample {
	if len(l) == 0 {
		return nil
	}
	return l[0].Data
}
