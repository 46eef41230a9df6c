package order

import (
	"cmp"
	"iter"
	"slices"

	"deadwax/api"
)

// thousand is the rate of the whole.
const thousand = 1000

// accounts are what is counted, by titles or by orders.
type accounts[K cmp.Ordered, V any] map[K]V

// inOrder yields the accounts in the order of their keys.
func (a accounts[K, V]) inOrder() iter.Seq2[K, V] {
	return func(yield func(K, V) bool) {
		var keys []K
		for k := range a {
			keys = append(keys, k)
		}
		slices.Sort(keys)
		for _, k := range keys {
			if !yield(k, a[k]) {
				return
			}
		}
	}
}

// shelf is the account of a title.
type shelf api.Shelf

func (s shelf) stock() int64 { return s.Pressed - s.Tests - s.Scrapped - s.Shipped + s.Back }

func (s shelf) sleevesLeft() int64 { return s.Sleeves - s.Shipped + s.Back }

func (s shelf) out() int64 { return s.Shipped - s.Back - s.Broken }

// with returns the shelf after an entry of its title.
func (s shelf) with(e api.Entry) shelf {
	switch e.Kind {
	case api.EntryPress:
		s.Pressed += e.Many
	case api.EntrySleeves:
		s.Sleeves += e.Many
	case api.EntryTest:
		s.Tests += e.Many
	case api.EntryScrap:
		s.Scrapped += e.Many
	case api.EntryShip:
		s.Shipped += e.Many
	case api.EntryReturn:
		if e.Whole {
			s.Back += e.Many
		} else {
			s.Broken += e.Many
		}
	}
	return s
}

// sale is the account of an order.
type sale api.Sale

func saleOf(e api.Entry) sale {
	return sale{Order: e.Order, Title: e.Title, Asked: e.Many, Price: e.Price}
}

func (s sale) open() int64 { return max(s.Asked-s.Shipped, 0) }

// worth returns the price of all that was shipped and not returned.
func (s sale) worth() int64 { return s.Price * (s.Shipped - s.Returned) }

// rights divides so that it is rounded down, also below 0.
func (s sale) rights(rate int64) int64 {
	n := s.worth() * rate
	if n < 0 {
		return (n - thousand + 1) / thousand
	}
	return n / thousand
}

// with returns the sale after a shipment, a return or a payment of its order.
func (s sale) with(e api.Entry) sale {
	switch e.Kind {
	case api.EntryShip:
		s.Shipped += e.Many
	case api.EntryReturn:
		s.Returned += e.Many
	case api.EntryPay:
		s.Paid += e.Price
	}
	return s
}
