package take_test

import (
	"math"
	"math/big"
	"math/rand"
	"slices"
	"strings"
	"testing"

	"deadwax/api"
	"deadwax/take"
)

// exampleTakes are the takes of the chapter's examples.
func exampleTakes() []api.Take {
	return []api.Take{
		{Name: "a", Data: []api.Sample{{L: 100, R: -100}, {L: 200, R: -200}, {L: 300, R: -300}, {L: 400, R: -400}}},
		{Name: "b", Data: []api.Sample{{L: 1000}, {L: 1000}}},
	}
}

// exampleParts are the programme of the chapter's examples.
func exampleParts() []api.Part {
	return []api.Part{{To: 4, Gap: 2, Level: 1000}, {Take: 1, To: 2, Gap: -1, Level: 1000}}
}

// loudTake has n samples as loud as possible.
func loudTake(name string, n int) api.Take {
	t := api.Take{Name: name, Data: make([]api.Sample, n)}
	for i := range t.Data {
		t.Data[i] = api.Sample{L: api.MaxSample, R: -api.MaxSample}
	}
	return t
}

// many returns n takes of one sample, with different names.
func many(n int) []api.Take {
	var l []api.Take
	for i := range n {
		l = append(l, api.Take{Name: "take" + string(rune('a'+i)), Data: []api.Sample{{L: int64(i)}}})
	}
	return l
}

// repeated returns a list with n times the same part.
func repeated(p api.Part, n int) []api.Part {
	return slices.Repeat([]api.Part{p}, n)
}

func copyTakes(l []api.Take) []api.Take {
	m := slices.Clone(l)
	for i := range m {
		m[i].Name = strings.Clone(m[i].Name)
		m[i].Data = slices.Clone(m[i].Data)
	}
	return m
}

func sameTake(a, b api.Take) bool { return a.Name == b.Name && slices.Equal(a.Data, b.Data) }

// extremes are numbers that no range has, and some at the ends of ranges.
func extremes() []int {
	return []int{math.MinInt, math.MinInt + 1, -api.MaxLong - 1, -1, 0, 1, api.MaxLong, api.MaxLong + 1, math.MaxInt - 1, math.MaxInt}
}

// wantedStarts follows the definition of the chapter: when each part begins, and the end of the last one.
func wantedStarts(p []api.Part) ([]int, int) {
	var starts []int
	end := 0
	for _, x := range p {
		starts = append(starts, end+x.Gap)
		end += x.Gap + x.To - x.From
	}
	return starts, end
}

// wantedPossible follows the definition of the chapter, for valid parts.
func wantedPossible(p []api.Part) bool {
	starts, end := wantedStarts(p)
	for i, x := range p {
		if i == 0 && starts[0] < 0 {
			return false
		}
		if x.Gap < x.From-x.To || i > 0 && x.Gap < p[i-1].From-p[i-1].To {
			return false
		}
		if i > 1 && starts[i] < starts[i-2]+p[i-2].To-p[i-2].From {
			return false
		}
	}
	return end <= api.MaxLong
}

// wantedSound multiplies the fractions of the definition, and rounds toward 0 once.
func wantedSound(l []api.Take, p api.Part, k int) api.Sample {
	n := p.To - p.From
	f := big.NewRat(p.Level, 1000)
	f.Mul(f, big.NewRat(int64(min(k+1, p.In+1)), int64(p.In+1)))
	f.Mul(f, big.NewRat(int64(min(n-k, p.Out+1)), int64(p.Out+1)))
	one := func(x int64) int64 {
		y := new(big.Rat).Mul(f, big.NewRat(x, 1))
		return new(big.Int).Quo(y.Num(), y.Denom()).Int64()
	}
	s := l[p.Take].Data[p.From+k]
	return api.Sample{L: one(s.L), R: one(s.R)}
}

// wantedSums returns, for each time, the sums of the sounds and the sums of their amounts.
func wantedSums(l []api.Take, p []api.Part) ([]api.Sample, []api.Sample) {
	starts, end := wantedStarts(p)
	sums, amounts := make([]api.Sample, end), make([]api.Sample, end)
	for i, x := range p {
		for k := range x.To - x.From {
			s, t := wantedSound(l, x, k), starts[i]+k
			sums[t].L += s.L
			sums[t].R += s.R
			amounts[t].L += amount(s.L)
			amounts[t].R += amount(s.R)
		}
	}
	return sums, amounts
}

func amount(x int64) int64 {
	if x < 0 {
		return -x
	}
	return x
}

func loud(l []api.Sample) bool {
	return slices.ContainsFunc(l, func(s api.Sample) bool { return amount(s.L) > api.MaxSample || amount(s.R) > api.MaxSample })
}

// wantedHeadroom tries all numbers, the greatest one first.
func wantedHeadroom(l []api.Take, p []api.Part) int64 {
	f := int64(api.MaxLevel)
	for ; f > 0; f-- {
		if _, amounts := wantedSums(l, scaled(p, f)); !loud(amounts) {
			break
		}
	}
	return f
}

// scaled replaces each level with its f thousandths, rounded down.
func scaled(p []api.Part, f int64) []api.Part {
	q := slices.Clone(p)
	for i := range q {
		q[i].Level = q[i].Level * f / 1000
	}
	return q
}

// someTakes returns takes with amounts up to most.
func someTakes(r *rand.Rand, most int64) []api.Take {
	l := many(1 + r.Intn(3))
	for i := range l {
		l[i].Data = someSamples(r, 1+r.Intn(12), most)
	}
	return l
}

func someSamples(r *rand.Rand, n int, most int64) []api.Sample {
	s := make([]api.Sample, n)
	for i := range s {
		s[i] = api.Sample{L: r.Int63n(2*most+1) - most, R: r.Int63n(2*most+1) - most}
	}
	return s
}

// someParts returns up to n valid parts, which need not be a possible programme.
func someParts(r *rand.Rand, l []api.Take, n int) []api.Part {
	var p []api.Part
	for range r.Intn(n + 1) {
		x := api.Part{Take: r.Intn(len(l)), In: r.Intn(4), Out: r.Intn(4), Level: r.Int63n(api.MaxLevel + 1)}
		long := len(l[x.Take].Data)
		x.From = r.Intn(long)
		x.To = x.From + 1 + r.Intn(long-x.From)
		x.Gap = r.Intn(9) - 5
		p = append(p, x)
	}
	return p
}

// eachProgramme runs f with many possible programmes, whose takes have amounts up to most.
func eachProgramme(t *testing.T, most int64, f func(r *rand.Rand, l []api.Take, p []api.Part)) {
	t.Helper()
	r := rand.New(rand.NewSource(1))
	runs := 0
	for runs < 400 {
		l := someTakes(r, most)
		p := someParts(r, l, 5)
		if !wantedPossible(p) {
			continue
		}
		runs++
		f(r, l, p)
		if t.Failed() {
			t.Fatalf("with the takes %v and the parts %+v", l, p)
		}
	}
}

// render fails the test if there is an error.
func render(t *testing.T, l []api.Take, p []api.Part) []api.Sample {
	t.Helper()
	s, e := take.Render(l, p)
	if e != api.OK {
		t.Errorf("Render: error %d", e)
	}
	return s
}
