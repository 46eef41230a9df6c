package side_test

import (
	"math"
	"slices"
	"strings"
	"testing"

	"deadwax/api"
	"deadwax/side"
)

// P4.1
func TestCheckFormat(t *testing.T) {
	for _, s := range []string{"f", "a", "z", "0", "9", "seven7", "7", strings.Repeat("z", api.MaxName)} {
		if e := side.CheckFormat(named(s)); e != api.OK {
			t.Errorf("the name %q: %d", s, e)
		}
	}
	for name, f := range map[string]api.Format{
		"the least":       {Name: "f", Outer: 1, Per: 1},
		"the greatest":    {Name: "f", Outer: api.MaxRadius, Inner: api.MaxRadius - 1, Per: api.MaxPer, Lead: api.MaxRadius, Gap: api.MaxRadius, Tail: api.MaxRadius, Cost: api.MaxCost},
		"Inner 0":         {Name: "f", Outer: api.MaxRadius, Per: 1},
		"no room for all": {Name: "f", Outer: 2, Inner: 1, Per: 1, Lead: api.MaxRadius},
	} {
		if e := side.CheckFormat(f); e != api.OK {
			t.Errorf("%s: %d", name, e)
		}
	}
	equal := example()
	equal.Inner = equal.Outer
	for _, f := range append(invalidFormats(), equal) {
		if e := side.CheckFormat(f); e != api.ErrArg {
			t.Errorf("%v: %d", f, e)
		}
	}
}

// P4.1
func TestKnown(t *testing.T) {
	for _, want := range []api.Format{
		{Name: "seven", Outer: 1344000, Inner: 864000, Per: 12000, Lead: 16000, Gap: 8000, Tail: 24000, Cost: 40},
		{Name: "ten", Outer: 1929600, Inner: 768000, Per: 6923, Lead: 16000, Gap: 16000, Tail: 32000, Cost: 70},
		{Name: "twelve", Outer: 2336000, Inner: 960000, Per: 16200, Lead: 24000, Gap: 16000, Tail: 48000, Cost: 100},
	} {
		if f, e := side.Known(want.Name); f != want || e != api.OK {
			t.Errorf("%s: %v, %d", want.Name, f, e)
		}
		if e := side.CheckFormat(want); e != api.OK {
			t.Errorf("%s is not valid: %d", want.Name, e)
		}
	}
	for _, s := range []string{"", "eleven", "Seven", "seven ", "seve", "sevens", "f", strings.Repeat("a", 1000)} {
		if f, e := side.Known(s); f != (api.Format{}) || e != api.ErrNone {
			t.Errorf("%q: %v, %d", s, f, e)
		}
	}
}

// P4.1
func TestCheckTracks(t *testing.T) {
	greatest := api.Track{Long: api.MaxMinutes, Pitch: api.MaxBreadth, Least: api.MaxRadius}
	for name, l := range map[string][]api.Track{
		"nil":          nil,
		"none":         {},
		"the least":    {{Long: 1, Pitch: 1}},
		"the greatest": {greatest},
		"24":           slices.Repeat([]api.Track{greatest}, api.MaxTracks),
	} {
		if e := side.CheckTracks(l); e != api.OK {
			t.Errorf("%s: %d", name, e)
		}
	}
	for _, x := range invalidTracks() {
		for i := range 3 {
			l := examples()
			l[i] = x
			if e := side.CheckTracks(l); e != api.ErrArg {
				t.Errorf("%v: %d", l, e)
			}
		}
	}
	if e := side.CheckTracks(slices.Repeat([]api.Track{greatest}, api.MaxTracks+1)); e != api.ErrMany {
		t.Errorf("25: %d", e)
	}
	if e := side.CheckTracks(tooManyTracks()); e != api.ErrMany {
		t.Errorf("25 that are not valid: %d", e)
	}
}

// P4.1
func TestWidth(t *testing.T) {
	seven, _ := side.Known("seven")
	whole := example()
	whole.Per = 1
	for _, x := range []struct {
		f    api.Format
		t    api.Track
		want int64
	}{
		{example(), examples()[0], 200},
		{example(), examples()[1], 120},
		{example(), examples()[2], 50},
		{seven, api.Track{Long: 100000, Pitch: 1600}, 14400},
		{example(), api.Track{Long: 1, Pitch: 7}, 7},
		{example(), api.Track{Long: 10, Pitch: 7, Least: api.MaxRadius}, 7},
		{example(), api.Track{Long: 11, Pitch: 7}, 14},
		{whole, api.Track{Long: api.MaxMinutes, Pitch: api.MaxBreadth}, 1 << 36},
	} {
		if n, e := side.Width(x.f, x.t); n != x.want || e != api.OK {
			t.Errorf("Width of %v: %d, %d, not %d", x.t, n, e, x.want)
		}
	}
	for _, f := range invalidFormats() {
		if n, e := side.Width(f, api.Track{Long: 1, Pitch: 1}); n != 0 || e != api.ErrArg {
			t.Errorf("Width on %v: %d, %d", f, n, e)
		}
	}
	for _, x := range invalidTracks() {
		if n, e := side.Width(example(), x); n != 0 || e != api.ErrArg {
			t.Errorf("Width of %v: %d, %d", x, n, e)
		}
	}
}

// result is whether all results of a function beside its error are zero, and the error.
type result struct {
	zero bool
	e    api.Errno
}

// withFormat are the functions with a format and tracks; what else they get is wrong.
func withFormat() map[string]func(api.Format, []api.Track) result {
	return map[string]func(api.Format, []api.Track) result{
		"Lay": func(f api.Format, l []api.Track) result {
			b, n, e := side.Lay(f, l, []int{-1})
			return result{len(b) == 0 && n == 0, e}
		},
		"Arrange": func(f api.Format, l []api.Track) result {
			o, e := side.Arrange(f, l)
			return result{len(o) == 0, e}
		},
		"Crowd": func(f api.Format, l []api.Track) result {
			c, e := side.Crowd(f, l)
			return result{len(c) == 0, e}
		},
		"CheckCrowd": func(f api.Format, l []api.Track) result {
			return result{true, side.CheckCrowd(f, l, []int{-1})}
		},
		"Pack": func(f api.Format, l []api.Track) result {
			p, n, e := side.Pack(f, l)
			return result{len(p) == 0 && n == 0, e}
		},
		"Fewest": func(f api.Format, l []api.Track) result {
			n, e := side.Fewest(f, l)
			return result{n == 0, e}
		},
	}
}

// withFormats are the functions with formats and tracks; what else they get is wrong.
func withFormats() map[string]func([]api.Format, []api.Track) result {
	return map[string]func([]api.Format, []api.Track) result{
		"Album": func(f []api.Format, l []api.Track) result {
			p, n, e := side.Album(f, l)
			return result{len(p) == 0 && n == 0, e}
		},
		"Cost": func(f []api.Format, l []api.Track) result {
			n, e := side.Cost(f, l, make([]api.Face, api.MaxTracks+1))
			return result{n == 0, e}
		},
		"Prices": func(f []api.Format, l []api.Track) result {
			p, e := side.Prices(f, l)
			return result{len(p) == 0, e}
		},
		"CheckPrices": func(f []api.Format, l []api.Track) result {
			j, e := side.CheckPrices(f, l, nil)
			return result{j == 0, e}
		},
	}
}

// The first sentence of the promises: errors of formats come before those of tracks, and these before all others.
func TestErrorsOfFormats(t *testing.T) {
	for name, call := range withFormat() {
		for _, f := range invalidFormats() {
			for _, l := range [][]api.Track{nil, examples(), tooManyTracks()} {
				if got := call(f, l); got != (result{true, api.ErrArg}) {
					t.Errorf("%s on %v: %v", name, f, got)
				}
			}
		}
	}
	for name, call := range withFormats() {
		for _, l := range [][]api.Track{nil, examples(), invalidTracks()[:1], tooManyTracks()} {
			if got := call(nil, l); got != (result{true, api.ErrMany}) {
				t.Errorf("%s on no format: %v", name, got)
			}
			if got := call(make([]api.Format, api.MaxFormats+1), l); got != (result{true, api.ErrMany}) {
				t.Errorf("%s on 9 formats: %v", name, got)
			}
			for _, f := range invalidFormats() {
				for i := range api.MaxFormats {
					formats := slices.Repeat([]api.Format{example()}, api.MaxFormats)
					formats[i] = f
					if got := call(formats, l); got != (result{true, api.ErrArg}) {
						t.Errorf("%s on %v: %v", name, formats, got)
					}
				}
			}
		}
	}
}

// The first sentence of the promises: errors of tracks come before all others but those of formats.
func TestErrorsOfTracks(t *testing.T) {
	check := func(name string, call func([]api.Track) result) {
		if got := call(tooManyTracks()); got != (result{true, api.ErrMany}) {
			t.Errorf("%s of 25 tracks: %v", name, got)
		}
		for _, x := range invalidTracks() {
			for _, l := range [][]api.Track{{x}, append(examples(), x), slices.Repeat([]api.Track{x}, api.MaxTracks)} {
				if got := call(l); got != (result{true, api.ErrArg}) {
					t.Errorf("%s of %v: %v", name, l, got)
				}
			}
		}
	}
	narrow := example()
	narrow.Tail = 580
	for name, call := range withFormat() {
		check(name, func(l []api.Track) result { return call(narrow, l) })
	}
	for name, call := range withFormats() {
		check(name, func(l []api.Track) result {
			return call(slices.Repeat([]api.Format{narrow}, api.MaxFormats), l)
		})
	}
}

// P1: whatever the arguments are, the functions end.
func TestAnyArguments(t *testing.T) {
	numbers := []int64{math.MinInt64, math.MinInt64 + 1, -1 << 40, -1, 0, 1, 10, 1000, api.MaxRadius, 1 << 40, math.MaxInt64}
	for _, x := range numbers {
		for _, y := range numbers {
			wild := api.Track{Long: x, Pitch: y, Least: x}
			for _, f := range []api.Format{example(), {Name: "f", Outer: x, Inner: y, Per: x, Lead: y, Gap: x, Tail: y, Cost: x}, {Name: "f", Outer: y, Per: 1, Gap: x}} {
				for _, l := range [][]api.Track{nil, {wild}, examples(), slices.Repeat(examples(), 8), slices.Repeat(examples(), 40)} {
					order := []int{int(x), int(y), 0}
					side.Lay(f, l, order)
					side.Lay(f, l, []int{int(y)})
					side.Lay(f, l, upTo(len(l)))
					side.Arrange(f, l)
					side.Crowd(f, l)
					side.CheckCrowd(f, l, order)
					side.CheckCrowd(f, l, upTo(len(l)))
					side.Pack(f, l)
					side.Fewest(f, l)
					formats := []api.Format{f, example()}
					side.Cost(formats, l, []api.Face{{Format: int(x), Many: int(y)}, {Format: int(y), Many: int(x)}})
					side.CheckPrices(formats, l, []int64{0, x, y, 0})
					side.CheckPrices(formats, l, slices.Repeat([]int64{x}, len(l)+1))
				}
				side.CheckFormat(f)
				side.Width(f, wild)
			}
		}
	}
	for _, l := range [][]api.Track{nil, examples(), slices.Repeat(examples(), 8), slices.Repeat(examples(), 40)} {
		for _, formats := range [][]api.Format{nil, {example()}, slices.Repeat([]api.Format{example()}, api.MaxFormats)} {
			side.Album(formats, l)
			side.Prices(formats, l)
		}
	}
}
