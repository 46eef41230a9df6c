package order

import (
	"strconv"
	"strings"

	"deadwax/api"
)

// whole is the last word of a return with Whole.
const whole = "whole"

// line returns the line of an entry, whose kind has to be valid.
func line(e api.Entry) string {
	l := words{kinds[e.Kind].word, decimal(e.Number), decimal(e.At)}
	s := saidBy(e)
	for _, name := range kinds[e.Kind].names {
		l = append(l, decimal(s[name]))
	}
	if e.Whole {
		l = append(l, whole)
	}
	return strings.Join(l, " ") + "\n"
}

func decimal(n int64) string { return strconv.FormatInt(n, 10) }

// parsed returns the entries of lines, and panics if one is not of the form.
func parsed(s string) []api.Entry {
	lines := strings.Split(s, "\n")
	last := len(lines) - 1
	if lines[last] != "" {
		panic(api.ErrForm)
	}
	var l []api.Entry
	for _, x := range lines[:last] {
		l = append(l, parsedLine(x))
	}
	return l
}

// parsedLine returns an entry that need not be valid.
func parsedLine(s string) api.Entry {
	w := words(strings.Split(s, " "))
	e := api.Entry{Kind: w.kind()}
	e.Number = w.number()
	e.At = w.number()
	var n said
	for _, name := range kinds[e.Kind].names {
		n[name] = w.number()
	}
	e.Order, e.Title, e.Many, e.Price, e.Of = n[theOrder], int(n[theTitle]), n[theMany], n[thePrice], n[theOf]
	e.Whole = len(w) > 0 && w.next() == whole
	// A number may be written in another way, as 01, and more words may follow: only what a text has is of the form.
	if line(e) != s+"\n" {
		panic(api.ErrForm)
	}
	return e
}

// words are those of a line, or those that are left to read.
type words []string

func (w *words) next() string {
	if len(*w) == 0 {
		panic(api.ErrForm)
	}
	first := (*w)[0]
	*w = (*w)[1:]
	return first
}

func (w *words) number() int64 {
	n, err := strconv.ParseInt(w.next(), 10, 64)
	if err != nil {
		panic(api.ErrForm)
	}
	return n
}

func (w *words) kind() int {
	word := w.next()
	for k := api.EntryPress; k <= api.EntryCancel; k++ {
		if kinds[k].word == word {
			return k
		}
	}
	panic(api.ErrForm)
}
