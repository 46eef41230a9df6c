package order

import (
	"iter"

	"deadwax/api"
)

// book is what is counted of entries.
type book struct {
	shelves accounts[int, shelf]
	sales   accounts[int64, sale]
	orders  []int64 // those of the sales, in the order of their entries
}

func newBook() *book {
	return &book{shelves: accounts[int, shelf]{}, sales: accounts[int64, sale]{}}
}

// bookOf returns what is counted of a ledger. The entries of orders go first, as the others of an order belong to its title even if they came before.
func bookOf(l []api.Entry) *book {
	b, all := newBook(), ledgerOf(l)
	for e := range all.counting() {
		if e.Kind == api.EntryOrder {
			b.enter(e)
		}
	}
	for e := range all.counting() {
		if e.Kind != api.EntryOrder {
			b.enter(e)
		}
	}
	return b
}

// enter counts an entry.
func (b *book) enter(e api.Entry) {
	s, has := b.sales[e.Order]
	switch {
	case e.Kind == api.EntryOrder && !has:
		b.sales[e.Order] = saleOf(e)
		b.orders = append(b.orders, e.Order)
	case forOrder(e) && has:
		b.sales[e.Order] = s.with(e)
		b.shelves[s.Title] = b.shelves[s.Title].with(e)
	case forShelf(e):
		b.shelves[e.Title] = b.shelves[e.Title].with(e)
	}
}

// forOrder reports whether an entry is a shipment, a return or a payment.
func forOrder(e api.Entry) bool {
	return e.Kind == api.EntryShip || e.Kind == api.EntryReturn || e.Kind == api.EntryPay
}

// forShelf reports whether an entry is counted for its title without an order.
func forShelf(e api.Entry) bool { return e.Kind != api.EntryOrder && !forOrder(e) }

// brokenBy counts an entry that comes after all others, none of which breaks a rule, and returns the rule that it breaks, 0 if there is none.
func (b *book) brokenBy(e api.Entry) int {
	_, had := b.sales[e.Order]
	b.enter(e)
	sale, shelf := b.sales[e.Order], b.shelves[b.titleOf(e)]
	ship := e.Kind == api.EntryShip
	switch {
	case e.Kind == api.EntryOrder && had:
		return api.BreakTwice
	case forOrder(e) && !had:
		return api.BreakOrder
	case ship && sale.Shipped > sale.Asked:
		return api.BreakMore
	case e.Kind == api.EntryReturn && sale.Returned > sale.Shipped:
		return api.BreakBack
	case (ship || e.Kind == api.EntryTest || e.Kind == api.EntryScrap) && shelf.stock() < 0:
		return api.BreakStock
	case ship && shelf.sleevesLeft() < 0:
		return api.BreakSleeve
	}
	return 0
}

func (b *book) titleOf(e api.Entry) int {
	if forOrder(e) {
		return b.sales[e.Order].Title
	}
	return e.Title
}

// salesOf yields the sales of a title, in the order of their entries.
func (b *book) salesOf(title int) iter.Seq[sale] {
	return func(yield func(sale) bool) {
		for _, order := range b.orders {
			if s := b.sales[order]; s.Title == title && !yield(s) {
				return
			}
		}
	}
}

func (b *book) rights(title int, rate int64) int64 {
	sum := int64(0)
	for s := range b.salesOf(title) {
		sum += s.rights(rate)
	}
	return sum
}

// open returns what the sales of a title are open for.
func (b *book) open(title int) int64 {
	sum := int64(0)
	for s := range b.salesOf(title) {
		sum += s.open()
	}
	return sum
}

func (b *book) filling(title int) []api.Fill {
	left := min(b.shelves[title].stock(), b.shelves[title].sleevesLeft())
	var l []api.Fill
	for s := range b.salesOf(title) {
		if n := min(s.open(), left); n > 0 {
			l = append(l, api.Fill{Order: s.Order, Many: n})
			left -= n
		}
	}
	return l
}
