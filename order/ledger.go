package order

import (
	"cmp"
	"iter"
	"slices"

	"deadwax/api"
)

// ledger is a ledger in order.
type ledger []api.Entry

// ledgerOf returns the entries of lists, in which none with the same number differ.
func ledgerOf(lists ...[]api.Entry) ledger {
	l := slices.Concat(lists...)
	slices.SortFunc(l, byTime)
	return slices.Compact(l)
}

func byTime(a, b api.Entry) int {
	return cmp.Or(cmp.Compare(a.At, b.At), cmp.Compare(a.Number, b.Number))
}

func (l ledger) until(at int64) ledger {
	return slices.DeleteFunc(slices.Clone(l), func(e api.Entry) bool { return e.At > at })
}

// counting yields the entries that count.
func (l ledger) counting() iter.Seq[api.Entry] {
	return func(yield func(api.Entry) bool) {
		cancelled := l.cancelled()
		for _, e := range l {
			if e.Kind != api.EntryCancel && !cancelled[e.Number] && !yield(e) {
				return
			}
		}
	}
}

// cancelled returns the numbers of entries that are cancelled, wherever in the ledger this is done.
func (l ledger) cancelled() map[int64]bool {
	numbers := map[int64]bool{}
	for _, e := range l {
		if e.Kind == api.EntryCancel {
			numbers[e.Of] = true
		}
	}
	return numbers
}
