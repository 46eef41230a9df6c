package order

import (
	"cmp"

	"deadwax/api"
)

// What an entry can name beside its number and its time.
const (
	theOrder = iota
	theTitle
	theMany
	thePrice
	theOf
	fields // how many there are
)

// kind is the word of a kind, and what it names, in the order in which a text has it.
type kind struct {
	word  string
	names []int
}

var kinds = [...]kind{
	api.EntryPress:   {"press", []int{theTitle, theMany}},
	api.EntrySleeves: {"sleeves", []int{theTitle, theMany}},
	api.EntryOrder:   {"order", []int{theOrder, theTitle, theMany, thePrice}},
	api.EntryShip:    {"ship", []int{theOrder, theMany}},
	api.EntryReturn:  {"return", []int{theOrder, theMany}},
	api.EntryTest:    {"test", []int{theTitle, theMany}},
	api.EntryScrap:   {"scrap", []int{theTitle, theMany}},
	api.EntryPay:     {"pay", []int{theOrder, thePrice}},
	api.EntryCancel:  {"cancel", []int{theOf}},
}

// bounds are the least and the greatest of what is named.
var bounds = [fields][2]int64{
	theOrder: {0, api.MaxOrders},
	theTitle: {0, api.MaxTitles - 1},
	theMany:  {1, api.MaxMany},
	thePrice: {0, api.MaxPrice},
	theOf:    {0, api.MaxStamp},
}

// said is what an entry says, by what can be named.
type said [fields]int64

func saidBy(e api.Entry) said {
	return said{theOrder: e.Order, theTitle: int64(e.Title), theMany: e.Many, thePrice: e.Price, theOf: e.Of}
}

func validEntry(e api.Entry) bool {
	if !between(api.EntryPress, e.Kind, api.EntryCancel) || e.Whole && e.Kind != api.EntryReturn {
		return false
	}
	if !between(0, e.Number, api.MaxStamp) || !between(0, e.At, api.MaxStamp) {
		return false
	}
	s := saidBy(e)
	for _, name := range kinds[e.Kind].names {
		if !between(bounds[name][0], s[name], bounds[name][1]) {
			return false
		}
		s[name] = 0
	}
	return s == said{}
}

// differ reports whether two entries of lists have the same number, but differ.
func differ(lists ...[]api.Entry) bool {
	numbered := map[int64]api.Entry{}
	for _, l := range lists {
		for _, e := range l {
			if other, has := numbered[e.Number]; has && other != e {
				return true
			}
			numbered[e.Number] = e
		}
	}
	return false
}

func checkTitle(title int) api.Errno {
	if !between(0, title, api.MaxTitles-1) {
		return api.ErrRange
	}
	return api.OK
}

func between[T cmp.Ordered](low, x, high T) bool { return low <= x && x <= high }
