package order_test

import (
	"fmt"
	"math/rand"
	"slices"
	"testing"

	"deadwax/api"
	"deadwax/order"
)

// counted is all that is counted in a ledger, as a text.
func counted(t *testing.T, l []api.Entry) string {
	t.Helper()
	number, rule := first(t, l)
	s := fmt.Sprintln(sales(t, l), number, rule)
	for _, title := range titles() {
		s += fmt.Sprintln(shelf(t, l, title), stock(t, l, title), lacking(t, l, title), filling(t, l, title))
		for _, rate := range rates() {
			s += fmt.Sprintln(rights(t, l, title, rate))
		}
	}
	for of := range int64(6) {
		n, e := order.Owes(l, of)
		s += fmt.Sprintln(n, e)
	}
	return s
}

// told is all that functions tell of a ledger, as a text.
func told(t *testing.T, l []api.Entry) string {
	t.Helper()
	s := counted(t, l) + fmt.Sprintln(order.CheckLedger(l)) + text(t, l)
	s += fmt.Sprintln(order.InOrder(l)) + fmt.Sprintln(order.Merge(l, example())) + fmt.Sprintln(order.Merge(example(), l))
	for at := range int64(12) {
		s += fmt.Sprintln(until(t, l, at))
	}
	return s
}

// far are ledgers whose numbers none of the chapter's example has, some of which break no rule.
func far(r *rand.Rand) []api.Entry {
	l := someLedger(r, r.Intn(20))
	if r.Intn(3) == 0 {
		l = goodLedger(r, 30)
	}
	for i := range l {
		l[i].Number += 1000
		if l[i].Kind == api.EntryCancel {
			l[i].Of += 1000
		}
	}
	return l
}

// P11.9: in whatever order entries stand, and however often.
func TestEveryOrder(t *testing.T) {
	r := rand.New(rand.NewSource(9))
	for range 100 {
		l := far(r)
		want := told(t, l)
		for _, other := range [][]api.Entry{inOrder(t, l), shuffled(r, l), slices.Repeat(l, 3), slices.Concat(shuffled(r, l), shuffled(r, l))} {
			if got := told(t, other); got != want {
				t.Fatalf("%v: %s\nbut %v: %s", l, want, other, got)
			}
		}
	}
	l := presses(300)
	want := told(t, l)
	r.Shuffle(len(l), func(i, j int) { l[i], l[j] = l[j], l[i] })
	if told(t, l[:300]) != want {
		t.Errorf("300 entries are not the same in another order")
	}
}

// P11.9: to merge gives the same in every order, and with itself changes nothing.
func TestMergeInEveryOrder(t *testing.T) {
	r := rand.New(rand.NewSource(19))
	for range 150 {
		all := far(r)
		var parts [3][]api.Entry
		for _, e := range all {
			for i := range parts {
				if r.Intn(2) == 0 {
					parts[i] = append(parts[i], e)
				}
			}
		}
		a, b, c := parts[0], parts[1], parts[2]
		want := wantedInOrder(slices.Concat(a, b, c))
		for _, got := range [][]api.Entry{
			merge(t, merge(t, a, b), c), merge(t, a, merge(t, b, c)), merge(t, merge(t, c, b), a), merge(t, b, merge(t, c, a)), merge(t, merge(t, a, c), merge(t, b, a)),
		} {
			if !slices.Equal(got, want) {
				t.Fatalf("%v, %v and %v: %v, not %v", a, b, c, got, want)
			}
		}
		if same := merge(t, all, all); !slices.Equal(same, inOrder(t, all)) || told(t, same) != told(t, all) {
			t.Fatalf("%v with itself: %v", all, same)
		}
	}
}

// P11.10
func TestBalance(t *testing.T) {
	r := rand.New(rand.NewSource(10))
	for range 500 {
		l := far(r)
		for _, title := range titles() {
			s, n := shelf(t, l, title), stock(t, l, title)
			if s.Pressed != n[0]+n[2]+s.Tests+s.Scrapped+s.Broken || s.Sleeves != n[1]+n[2]+s.Broken {
				t.Errorf("%v with %v left", s, n)
			}
			shipped, returned := int64(0), int64(0)
			for _, sale := range sales(t, l) {
				if sale.Title == title {
					shipped += sale.Shipped
					returned += sale.Returned
				}
			}
			if shipped != s.Shipped || returned != s.Back+s.Broken {
				t.Errorf("%v with sales of %d and %d", s, shipped, returned)
			}
		}
		if t.Failed() {
			t.Fatalf("in %v", l)
		}
	}
}

// keeps fails the test if something is below 0, or more than was asked or shipped, or belongs to no order.
func keeps(t *testing.T, l []api.Entry) {
	t.Helper()
	for title := range api.MaxTitles {
		if n := stock(t, l, title); n[0] < 0 || n[1] < 0 {
			t.Errorf("the title %d: %v", title, n)
		}
	}
	var orders []int64
	for _, s := range sales(t, l) {
		orders = append(orders, s.Order)
		if s.Shipped > s.Asked || s.Returned > s.Shipped {
			t.Errorf("the sale %v", s)
		}
	}
	for _, e := range l {
		if (e.Kind == api.EntryShip || e.Kind == api.EntryReturn || e.Kind == api.EntryPay) && !slices.Contains(orders, e.Order) {
			t.Errorf("the entry %v", e)
		}
	}
}

// P11.11: at any time, after each entry that counts.
func TestNoRuleIsBroken(t *testing.T) {
	r := rand.New(rand.NewSource(11))
	long := 0
	for range 100 {
		l := goodLedger(r, 40)
		checkFirst(t, "a ledger that breaks no rule", l, 0, 0)
		all := counting(l)
		for i := range len(all) + 1 {
			keeps(t, all[:i])
		}
		if t.Failed() {
			t.Fatalf("in %v", l)
		}
		long = max(long, len(all))
	}
	if long < 15 {
		t.Errorf("no ledger has more than %d entries", long)
	}
}

// P11.12: what is cancelled might as well not be there, and what cancels nothing that counts neither.
func TestCancelled(t *testing.T) {
	r := rand.New(rand.NewSource(12))
	for range 60 {
		l := far(r)
		want := counted(t, l)
		for _, e := range inOrder(t, l) {
			cancels := cancel(5000, r.Int63n(20), e.Number)
			with, without := append(slices.Clone(l), cancels), slices.DeleteFunc(slices.Clone(l), func(x api.Entry) bool { return x == e })
			if e.Kind == api.EntryCancel {
				without = l
			}
			if counted(t, with) != counted(t, without) {
				t.Fatalf("%v with a cancelled %v", l, e)
			}
		}
		for _, none := range []api.Entry{cancel(5000, 3, 5000), cancel(5000, 3, 4999), cancel(5000, 3, 0)} {
			if counted(t, append(slices.Clone(l), none)) != want {
				t.Fatalf("%v with %v", l, none)
			}
		}
	}
}

// shipments are those of a filling, after all other entries.
func shipments(fills []api.Fill) []api.Entry {
	var l []api.Entry
	for i, f := range fills {
		l = append(l, ship(int64(6000+i), 1000, f.Order, f.Many))
	}
	return l
}

// P11.13: no sale gets more than it is open for, and all get as much as there is.
func TestHowMuchIsFilled(t *testing.T) {
	r := rand.New(rand.NewSource(13))
	for range 500 {
		l := far(r)
		for _, title := range titles() {
			fills, all, rest := filling(t, l, title), int64(0), int64(0)
			for _, s := range sales(t, l) {
				gets := int64(0)
				for _, f := range fills {
					if f.Order == s.Order {
						gets += f.Many
					}
				}
				if s.Title != title && gets != 0 || gets > open(s) {
					t.Fatalf("%v: the sale %v of %d gets %d", l, s, title, gets)
				}
				if s.Title == title {
					rest += open(s)
				}
				all += gets
			}
			n := stock(t, l, title)
			if all != max(min(n[0], n[1], rest), 0) {
				t.Fatalf("%v: %v of %v for %d", l, fills, n, rest)
			}
		}
	}
}

// P11.13: what is filled can be shipped; after what was lacking nothing is left open.
func TestFillingIsShipped(t *testing.T) {
	r := rand.New(rand.NewSource(14))
	for range 200 {
		l := goodLedger(r, 30)
		for _, title := range titles() {
			checkFirst(t, "with a filling", append(slices.Clone(l), shipments(filling(t, l, title))...), 0, 0)
		}
		for _, l := range [][]api.Entry{l, far(r)} {
			for _, title := range titles() {
				filled := fillAll(t, l, title)
				for _, s := range sales(t, filled) {
					if s.Title == title && open(s) > 0 {
						t.Errorf("the sale %v is open", s)
					}
				}
			}
		}
		if t.Failed() {
			t.Fatalf("in %v", l)
		}
	}
}

// fillAll returns a ledger after what is lacking for a title, and its filling.
func fillAll(t *testing.T, l []api.Entry, title int) []api.Entry {
	t.Helper()
	n := lacking(t, l, title)
	l = slices.Clone(l)
	if n[0] > 0 {
		l = append(l, press(5000, 999, title, n[0]))
	}
	if n[1] > 0 {
		l = append(l, sleeves(5001, 999, title, n[1]))
	}
	return append(l, shipments(filling(t, l, title))...)
}

// P11.14
func TestRightsAndRates(t *testing.T) {
	r := rand.New(rand.NewSource(15))
	for i := range 200 {
		good, title := goodLedger(r, 40), i%3
		for _, l := range [][]api.Entry{good, far(r)} {
			for _, title := range titles() {
				all := int64(0)
				for _, s := range sales(t, l) {
					if s.Title == title {
						all += owes(t, l, s.Order) + s.Paid
					}
				}
				if rights(t, l, title, 0) != 0 || rights(t, l, title, 1000) != all {
					t.Fatalf("%v: the rights of %d are %d and %d, not 0 and %d", l, title, rights(t, l, title, 0), rights(t, l, title, 1000), all)
				}
			}
		}
		before := int64(0)
		for rate := range int64(101) {
			n := rights(t, good, title, rate*10)
			if n < before {
				t.Fatalf("%v: the rights fall from %d to %d at %d", good, before, n, rate*10)
			}
			before = n
		}
	}
}

// P11.15
func TestTextOfOrder(t *testing.T) {
	r := rand.New(rand.NewSource(16))
	for range 300 {
		l := far(r)
		s := text(t, l)
		if text(t, inOrder(t, l)) != s || text(t, shuffled(r, l)) != s || !slices.Equal(parse(t, s), inOrder(t, l)) {
			t.Fatalf("%v: %q", l, s)
		}
	}
}
