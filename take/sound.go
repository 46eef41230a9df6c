package take

import (
	"iter"
	"slices"

	"deadwax/api"
)

// plain is the level that leaves a sample as it is.
const plain = 1000

// gain is a fraction by which a channel is multiplied.
type gain struct {
	up, down int64
}

// of rounds toward 0, as Go divides; a gain is one fraction, so that this happens just once.
func (g gain) of(x int64) int64 { return x * g.up / g.down }

// gain returns what the level and both fades do to the sample k.
func (p placed) gain(k int) gain {
	in := min(k, p.In) + 1
	out := min(p.length()-k, p.Out+1)
	return gain{
		up:   p.Level * int64(in) * int64(out),
		down: plain * int64(p.In+1) * int64(p.Out+1),
	}
}

func (p placed) sound(l []api.Take, k int) api.Sample {
	return both(l[p.Take].Data[p.From+k], p.gain(k).of)
}

// both does the same to both channels.
func both(s api.Sample, f func(int64) int64) api.Sample {
	return api.Sample{L: f(s.L), R: f(s.R)}
}

func add(a, b api.Sample) api.Sample {
	return api.Sample{L: a.L + b.L, R: a.R + b.R}
}

func amount(x int64) int64 { return max(x, -x) }

func square(x int64) int64 { return x * x }

// sounds yields the sounds of all parts that sound at a time.
func sounds(l []api.Take, q []placed, t int) iter.Seq[api.Sample] {
	return func(yield func(api.Sample) bool) {
		for p, k := range sounding(q, t) {
			if !yield(p.sound(l, k)) {
				return
			}
		}
	}
}

// bearable reports whether what sounds at a time is never too loud, even if no sound takes away from another one.
func bearable(l []api.Take, q []placed) bool {
	for t := range length(q) {
		var sum api.Sample
		for s := range sounds(l, q, t) {
			sum = add(sum, both(s, amount))
		}
		if !validSample(sum) {
			return false
		}
	}
	return true
}

// louder returns the parts with f thousandths of their levels, rounded down.
func louder(q []placed, f int64) []placed {
	m := slices.Clone(q)
	for i := range m {
		m[i].Level = m[i].Level * f / plain
	}
	return m
}

// greatest returns the greatest number from 0 to most that holds, if 0 holds and so does all that is less than what holds.
func greatest[T whole](most T, holds func(T) bool) T {
	low, high := T(0), most
	for low < high {
		middle := high - (high-low)/2
		if holds(middle) {
			low = middle
		} else {
			high = middle - 1
		}
	}
	return low
}

// Sound returns the sound of a sample of a part. (P1.6)
func Sound(l []api.Take, p []api.Part, i, k int) (api.Sample, api.Errno) {
	if e := CheckProgramme(l, p); e != api.OK {
		return api.Sample{}, e
	}
	if i < 0 || i >= len(p) {
		return api.Sample{}, api.ErrRange
	}
	x := place(p)[i]
	if k < 0 || k >= x.length() {
		return api.Sample{}, api.ErrRange
	}
	return x.sound(l, k), api.OK
}

// Render returns the programme at all times. (P1.6)
func Render(l []api.Take, p []api.Part) ([]api.Sample, api.Errno) {
	if e := CheckProgramme(l, p); e != api.OK {
		return nil, e
	}
	q := place(p)
	all := make([]api.Sample, 0, length(q))
	for t := range length(q) {
		var sum api.Sample
		for s := range sounds(l, q, t) {
			sum = add(sum, s)
		}
		all = append(all, sum)
	}
	if !validSamples(all) {
		return nil, api.ErrOver
	}
	return all, api.OK
}

// Headroom returns the headroom. (P1.7)
func Headroom(l []api.Take, p []api.Part) (int64, api.Errno) {
	if e := CheckProgramme(l, p); e != api.OK {
		return 0, e
	}
	q := place(p)
	f := greatest(api.MaxLevel, func(f int64) bool { return bearable(l, louder(q, f)) })
	return f, api.OK
}

// Peak returns the greatest amounts. (P1.9)
func Peak(s []api.Sample) (api.Sample, api.Errno) {
	if e := CheckSamples(s); e != api.OK {
		return api.Sample{}, e
	}
	var peak api.Sample
	for _, x := range s {
		y := both(x, amount)
		peak = api.Sample{L: max(peak.L, y.L), R: max(peak.R, y.R)}
	}
	return peak, api.OK
}

// Energy returns the sums of the squares. (P1.9)
func Energy(s []api.Sample) (int64, int64, api.Errno) {
	if e := CheckSamples(s); e != api.OK {
		return 0, 0, e
	}
	var sum api.Sample
	for _, x := range s {
		sum = add(sum, both(x, square))
	}
	return sum.L, sum.R, api.OK
}

// Silences returns all silences. (P1.10)
func Silences(s []api.Sample, limit int64, least int) ([][2]int, api.Errno) {
	if e := CheckSamples(s); e != api.OK {
		return nil, e
	}
	if !within(limit, 0, api.MaxSample) || !within(least, 1, api.MaxLong) {
		return nil, api.ErrRange
	}
	var silences [][2]int
	from := 0
	for i := range len(s) + 1 {
		if i < len(s) && quiet(s[i], limit) {
			continue
		}
		if i-from >= least {
			silences = append(silences, [2]int{from, i})
		}
		from = i + 1
	}
	return silences, api.OK
}

func quiet(s api.Sample, limit int64) bool {
	return amount(s.L) <= limit && amount(s.R) <= limit
}
