package filter

import (
	"iter"

	"deadwax/api"
)

// Needs returns the needs of all samples. (P2.7)
func Needs(p []api.Sample, ceiling int64) ([]int64, api.Errno) {
	if e := checkCeiling(p, ceiling); e != api.OK {
		return nil, e
	}
	return needs(p, ceiling), api.OK
}

// Gains returns the greatest fair gains. (P2.7)
func Gains(p []api.Sample, ceiling, step int64) ([]int64, api.Errno) {
	if e := checkLimiter(p, ceiling, step); e != api.OK {
		return nil, e
	}
	g := needs(p, ceiling)
	for from, to := range forthAndBack(len(g)) {
		g[to] = min(g[to], g[from]+step)
	}
	return g, api.OK
}

// CheckGains reports whether gains are fair. (P2.8)
func CheckGains(p []api.Sample, ceiling, step int64, gains []int64) (int, api.Errno) {
	if e := checkLimiter(p, ceiling, step); e != api.OK {
		return 0, e
	}
	if len(gains) != len(p) {
		return 0, api.ErrEqual
	}
	for i, g := range gains {
		switch {
		case g < 0 || g > api.FullGain:
			return i, api.ErrRange
		case g > need(p[i], ceiling):
			return i, api.ErrLimit
		case i > 0 && !within(g-gains[i-1], step):
			return i, api.ErrRule
		}
	}
	return len(gains), api.OK
}

// Limit returns a limited programme. (P2.8)
func Limit(p []api.Sample, ceiling, step int64) ([]api.Sample, api.Errno) {
	gains, e := Gains(p, ceiling, step)
	if e != api.OK {
		return nil, e
	}
	q := make([]api.Sample, 0, len(p))
	for i, s := range p {
		q = append(q, api.Sample{L: gained(s.L, gains[i]), R: gained(s.R, gains[i])})
	}
	return q, api.OK
}

// gained rounds toward 0, as Go divides.
func gained(x, gain int64) int64 { return x * gain / api.FullGain }

func needs(p []api.Sample, ceiling int64) []int64 {
	l := make([]int64, 0, len(p))
	for _, s := range p {
		l = append(l, need(s, ceiling))
	}
	return l
}

// need returns the greatest gain with which the louder channel, rounded down, is less than ceiling + 1.
func need(s api.Sample, ceiling int64) int64 {
	loud := max(amount(s.L), amount(s.R))
	if loud <= ceiling {
		return api.FullGain
	}
	return (api.FullGain*(ceiling+1) - 1) / loud
}

// forthAndBack yields all pairs of neighbours of n indexes: each with the next one, then from the last one each with the one before it. So what the first of a pair has is handed on to all others.
func forthAndBack(n int) iter.Seq2[int, int] {
	return func(yield func(int, int) bool) {
		for i := range n - 1 {
			if !yield(i, i+1) {
				return
			}
		}
		for i := n - 1; i > 0; i-- {
			if !yield(i, i-1) {
				return
			}
		}
	}
}
