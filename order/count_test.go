package order_test

import (
	"math"
	"math/rand"
	"slices"
	"testing"

	"deadwax/api"
	"deadwax/order"
)

// P11.3, P11.4, P11.5: the chapter's examples.
func TestExamples(t *testing.T) {
	l := example()
	if s := shelf(t, l, 5); s != (api.Shelf{Pressed: 100, Sleeves: 80, Tests: 4, Shipped: 50, Back: 3, Broken: 2}) {
		t.Errorf("Shelf: %+v", s)
	}
	if s := stock(t, l, 5); s != [3]int64{49, 33, 45} {
		t.Errorf("Stock: %v", s)
	}
	want := []api.Sale{{Order: 70, Title: 5, Asked: 60, Price: 20, Shipped: 50, Returned: 5, Paid: 500}, {Order: 71, Title: 5, Asked: 90, Price: 10}}
	if s := sales(t, l); !slices.Equal(s, want) {
		t.Errorf("Sales: %+v", s)
	}
	if n := owes(t, l, 70); n != 400 {
		t.Errorf("Owes: %d", n)
	}
	if n := rights(t, l, 5, 100); n != 90 {
		t.Errorf("Rights: %d", n)
	}
}

// P11.3: all kinds of entries, each with another number of discs.
func TestShelf(t *testing.T) {
	l := []api.Entry{
		press(1, 1, 5, 1000), press(2, 1, 5, 10000), sleeves(3, 1, 5, 700), sleeves(4, 1, 5, 7000), test(5, 1, 5, 20), test(6, 1, 5, 200), scrap(7, 1, 5, 3), scrap(8, 1, 5, 300),
		ordered(9, 1, 8, 5, 9999, 7), ship(10, 1, 8, 40), ordered(11, 1, 9, 5, 5555, 3), ship(12, 1, 9, 400), back(13, 1, 8, 5), back(14, 1, 9, 15), broken(15, 1, 8, 6), broken(16, 1, 9, 16), pay(17, 1, 8, 1234),
	}
	want := api.Shelf{Pressed: 11000, Sleeves: 7700, Tests: 220, Scrapped: 303, Shipped: 440, Back: 20, Broken: 22}
	if s := shelf(t, l, 5); s != want {
		t.Errorf("Shelf: %+v, not %+v", s, want)
	}
	if s := stock(t, l, 5); s != [3]int64{10057, 7280, 398} {
		t.Errorf("Stock: %v", s)
	}
	for _, title := range []int{0, 4, 6, 8, 63} {
		if s := shelf(t, l, title); s != (api.Shelf{}) {
			t.Errorf("Shelf of %d: %+v", title, s)
		}
		if s := stock(t, l, title); s != [3]int64{} {
			t.Errorf("Stock of %d: %v", title, s)
		}
	}
}

// checkCounts compares all that is counted of a ledger with what is wanted.
func checkCounts(t *testing.T, l []api.Entry) {
	t.Helper()
	w := counting(l)
	for _, title := range titles() {
		if s := shelf(t, l, title); s != w.shelf(title) {
			t.Fatalf("Shelf of %d in %v: %+v, not %+v", title, l, s, w.shelf(title))
		}
		if s := stock(t, l, title); s != w.stock(title) {
			t.Fatalf("Stock of %d in %v: %v, not %v", title, l, s, w.stock(title))
		}
		for _, rate := range rates() {
			if n := rights(t, l, title, rate); n != w.rights(title, rate) {
				t.Fatalf("Rights of %d for %d in %v: %d, not %d", title, rate, l, n, w.rights(title, rate))
			}
		}
	}
	if s := sales(t, l); !slices.Equal(s, w.sales()) {
		t.Fatalf("Sales in %v: %+v, not %+v", l, s, w.sales())
	}
	for of := range int64(6) {
		if _, has := w.entry(of); has {
			if n := owes(t, l, of); n != w.owes(of) {
				t.Fatalf("Owes of %d in %v: %d, not %d", of, l, n, w.owes(of))
			}
		} else if n, e := order.Owes(l, of); n != 0 || e != api.ErrNone {
			t.Fatalf("Owes of %d in %v: %d, %d", of, l, n, e)
		}
	}
}

// P11.3, P11.4, P11.5
func TestManyCounts(t *testing.T) {
	r := rand.New(rand.NewSource(3))
	for range 1500 {
		checkCounts(t, someLedger(r, r.Intn(30)))
	}
	for range 100 {
		checkCounts(t, goodLedger(r, 40))
	}
	checkCounts(t, nil)
	checkCounts(t, []api.Entry{})
}

// P11.3, P11.4: what an order says of itself comes from the first of its entries that counts; what belongs to it may be older.
func TestEntriesOfOrders(t *testing.T) {
	one, other, late := ordered(1, 4, 7, 2, 10, 3), ordered(2, 3, 7, 1, 20, 5), ordered(0, 4, 7, 0, 30, 2)
	rest := []api.Entry{ship(3, 1, 7, 4), back(4, 0, 7, 1), broken(5, 6, 7, 2), pay(6, 2, 7, 9)}
	for _, c := range []struct {
		name string
		l    []api.Entry
		want []api.Sale
	}{
		{"no entry", nil, nil},
		{"one", []api.Entry{one}, []api.Sale{{Order: 7, Title: 2, Asked: 10, Price: 3, Shipped: 4, Returned: 3, Paid: 9}}},
		{"an older one with a greater number", []api.Entry{one, other}, []api.Sale{{Order: 7, Title: 1, Asked: 20, Price: 5, Shipped: 4, Returned: 3, Paid: 9}}},
		{"one of the same time with a lower number", []api.Entry{one, late}, []api.Sale{{Order: 7, Title: 0, Asked: 30, Price: 2, Shipped: 4, Returned: 3, Paid: 9}}},
		{"a cancelled one", []api.Entry{one, other, cancel(9, 9, 2)}, []api.Sale{{Order: 7, Title: 2, Asked: 10, Price: 3, Shipped: 4, Returned: 3, Paid: 9}}},
		{"two cancelled ones", []api.Entry{one, other, cancel(9, 0, 2), cancel(10, 0, 1)}, nil},
	} {
		l := append(c.l, rest...)
		if s := sales(t, l); !slices.Equal(s, c.want) {
			t.Errorf("%s: %+v, not %+v", c.name, s, c.want)
		}
		for title := range 4 {
			want := api.Shelf{}
			if len(c.want) > 0 && c.want[0].Title == title {
				want = api.Shelf{Shipped: 4, Back: 1, Broken: 2}
			}
			if s := shelf(t, l, title); s != want {
				t.Errorf("%s: the shelf of %d is %+v, not %+v", c.name, title, s, want)
			}
		}
	}
}

// P11.4: in the order of Order, from 0 to MaxOrders.
func TestOrderOfSales(t *testing.T) {
	l := []api.Entry{ordered(1, 1, api.MaxOrders, 0, 1, 0), ordered(2, 2, 1<<20, 63, 2, 4), ordered(3, 3, 0, 1, 3, api.MaxPrice), ordered(4, 4, 9, 1, api.MaxMany, 1), ordered(5, 5, 10, 0, 1, 1)}
	want := []api.Sale{{Order: 0, Title: 1, Asked: 3, Price: api.MaxPrice}, {Order: 9, Title: 1, Asked: api.MaxMany, Price: 1}, {Order: 10, Asked: 1, Price: 1}, {Order: 1 << 20, Title: 63, Asked: 2, Price: 4}, {Order: api.MaxOrders, Asked: 1}}
	if s := sales(t, l); !slices.Equal(s, want) {
		t.Errorf("%+v, not %+v", s, want)
	}
}

// P11.4: what was paid is more than what is owed, and what came back is more than what was shipped.
func TestOwes(t *testing.T) {
	l := []api.Entry{ordered(1, 1, 7, 2, 10, 3), ordered(2, 1, 8, 2, 10, 100), ordered(3, 1, 9, 2, 10, 5), ship(4, 2, 7, 5), pay(5, 3, 7, 16), back(6, 2, 8, 1), broken(7, 2, 8, 2), pay(8, 2, 8, 50), ship(9, 2, 9, 6), ship(10, 3, 9, 7), broken(11, 4, 9, 1)}
	for of, want := range map[int64]int64{7: -1, 8: -350, 9: 60} {
		if n := owes(t, l, of); n != want {
			t.Errorf("the order %d: %d, not %d", of, n, want)
		}
	}
	for _, of := range []int64{0, 6, 10, 7 + 1<<32, -7, math.MinInt64, math.MaxInt64, api.MaxOrders + 1} {
		if n, e := order.Owes(l, of); n != 0 || e != api.ErrNone {
			t.Errorf("the order %d: %d, %d", of, n, e)
		}
	}
	if n, e := order.Owes([]api.Entry{ordered(1, 1, 7, 2, 10, 3), cancel(2, 0, 1), ship(3, 1, 7, 1), pay(4, 1, 7, 9)}, 7); n != 0 || e != api.ErrNone {
		t.Errorf("an order with a cancelled entry: %d, %d", n, e)
	}
}

// P11.5: each sale is rounded down on its own, also below 0.
func TestRights(t *testing.T) {
	l := []api.Entry{
		ordered(1, 1, 1, 5, 9, 1), ordered(2, 1, 2, 5, 9, 3), ordered(3, 1, 3, 5, 9, 1), ordered(4, 1, 4, 6, 9, 7),
		ship(5, 2, 1, 9), ship(6, 2, 2, 3), back(7, 2, 3, 1), ship(8, 2, 4, 1), ship(9, 2, 9, 9),
	}
	for rate, want := range map[int64]int64{0: 0, 1: -1, 111: -1, 112: 1 + 1 - 1, 500: 4 + 4 - 1, 999: 8 + 8 - 1, 1000: 9 + 9 - 1} {
		if n := rights(t, l, 5, rate); n != want {
			t.Errorf("for %d: %d, not %d", rate, n, want)
		}
	}
	for _, rate := range beyond(0, 1000) {
		for _, l := range [][]api.Entry{nil, l} {
			if n, e := order.Rights(l, 5, rate); n != 0 || e != api.ErrRange {
				t.Errorf("for %d: %d, %d", rate, n, e)
			}
		}
	}
}

// P11.3, P11.4, P11.5: 299 times the greatest number, for one order.
func TestGreatNumbers(t *testing.T) {
	for _, kind := range []int{api.EntryShip, api.EntryReturn, api.EntryPay} {
		l := []api.Entry{ordered(0, 0, 3, 2, api.MaxMany, api.MaxPrice)}
		for i := range int64(299) {
			e := greatest(kind)
			e.Number, e.Order = i+1, 3
			l = append(l, e)
		}
		checkCounts(t, l)
		want := map[int]int64{api.EntryShip: 299 << 40, api.EntryReturn: -299 << 40, api.EntryPay: -299 << 20}[kind]
		if n := owes(t, l, 3); n != want {
			t.Errorf("the kind %d: %d, not %d", kind, n, want)
		}
	}
}
