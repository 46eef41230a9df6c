package take

import (
	"strconv"
	"strings"

	"deadwax/api"
)

// Text returns the text of a programme. (P1.11)
func Text(l []api.Take, p []api.Part) (string, api.Errno) {
	if e := CheckProgramme(l, p); e != api.OK {
		return "", e
	}
	var b strings.Builder
	for _, x := range p {
		b.WriteString(line(l, x))
	}
	return b.String(), api.OK
}

func line(l []api.Take, p api.Part) string {
	words := []string{
		"part",
		l[p.Take].Name,
		strconv.Itoa(p.From),
		strconv.Itoa(p.To),
		strconv.Itoa(p.Gap),
		strconv.Itoa(p.In),
		strconv.Itoa(p.Out),
		strconv.FormatInt(p.Level, 10),
	}
	return strings.Join(words, " ") + "\n"
}

// Parse returns the programme of a text. (P1.11)
func Parse(l []api.Take, s string) ([]api.Part, api.Errno) {
	if e := CheckTakes(l); e != api.OK {
		return nil, e
	}
	if len(s) > api.MaxText {
		return nil, api.ErrLong
	}
	p, ok := parsed(l, s)
	if !ok {
		return nil, api.ErrForm
	}
	// A number may still be written in another way, as +1 or 01: only what Text writes is a text.
	if again, e := Text(l, p); e != api.OK || again != s {
		return nil, api.ErrForm
	}
	return p, api.OK
}

// parsed leaves out what comes after the last line feed.
func parsed(l []api.Take, s string) ([]api.Part, bool) {
	lines := strings.Split(s, "\n")
	var p []api.Part
	for _, x := range lines[:len(lines)-1] {
		part, ok := parsedLine(l, x)
		if !ok {
			return nil, false
		}
		p = append(p, part)
	}
	return p, true
}

func parsedLine(l []api.Take, s string) (api.Part, bool) {
	words := strings.Split(s, " ")
	if len(words) != 8 {
		return api.Part{}, false
	}
	index := named(l, words[1])
	if index < 0 {
		return api.Part{}, false
	}
	var n [6]int
	for i, w := range words[2:] {
		x, err := strconv.Atoi(w)
		if err != nil {
			return api.Part{}, false
		}
		n[i] = x
	}
	return api.Part{Take: index, From: n[0], To: n[1], Gap: n[2], In: n[3], Out: n[4], Level: int64(n[5])}, true
}
