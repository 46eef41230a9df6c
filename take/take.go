// Package take is layer 1: see shared/doc/01-take.md.
package take

import (
	"slices"

	"deadwax/api"
)

// CheckTakes reports whether takes are valid. (P1.1)
func CheckTakes(l []api.Take) api.Errno {
	if len(l) == 0 || len(l) > api.MaxTakes || slices.ContainsFunc(l, tooLong) {
		return api.ErrMany
	}
	for _, t := range l {
		if !validTake(t) {
			return api.ErrArg
		}
	}
	for i, t := range l {
		if named(l, t.Name) < i {
			return api.ErrHave
		}
	}
	return api.OK
}

// CheckProgramme reports whether a programme is valid and possible. (P1.2)
func CheckProgramme(l []api.Take, p []api.Part) api.Errno {
	if e := CheckTakes(l); e != api.OK {
		return e
	}
	if len(p) > api.MaxParts {
		return api.ErrMany
	}
	for _, x := range p {
		if !validPart(l, x) {
			return api.ErrArg
		}
	}
	if !possible(place(p)) {
		return api.ErrPlan
	}
	return api.OK
}

// CheckSamples reports whether samples are valid. (P1.3)
func CheckSamples(s []api.Sample) api.Errno {
	if len(s) > api.MaxLong {
		return api.ErrMany
	}
	if !validSamples(s) {
		return api.ErrArg
	}
	return api.OK
}

// named returns the index of the first take with a name, -1 if there is none.
func named(l []api.Take, name string) int {
	return slices.IndexFunc(l, func(t api.Take) bool { return t.Name == name })
}

func tooLong(t api.Take) bool { return len(t.Data) > api.MaxLong }

func validTake(t api.Take) bool {
	return validName(t.Name) && len(t.Data) > 0 && !tooLong(t) && validSamples(t.Data)
}

// validName looks at bytes: a character of several bytes has none that is allowed.
func validName(s string) bool {
	if len(s) == 0 || len(s) > api.MaxName {
		return false
	}
	for i := range len(s) {
		letter := 'a' <= s[i] && s[i] <= 'z'
		digit := '0' <= s[i] && s[i] <= '9'
		if !letter && !digit {
			return false
		}
	}
	return true
}

func validSamples(s []api.Sample) bool {
	for _, x := range s {
		if !validSample(x) {
			return false
		}
	}
	return true
}

func validSample(s api.Sample) bool {
	return within(s.L, -api.MaxSample, api.MaxSample) && within(s.R, -api.MaxSample, api.MaxSample)
}

func validPart(l []api.Take, p api.Part) bool {
	if p.Take < 0 || p.Take >= len(l) {
		return false
	}
	return 0 <= p.From && p.From < p.To && p.To <= len(l[p.Take].Data) &&
		within(p.Gap, -api.MaxLong, api.MaxLong) &&
		within(p.In, 0, api.MaxFade) &&
		within(p.Out, 0, api.MaxFade) &&
		within(p.Level, 0, api.MaxLevel)
}

// whole is what lengths and levels are counted in.
type whole interface {
	int | int64
}

func within[T whole](x, low, high T) bool { return low <= x && x <= high }
