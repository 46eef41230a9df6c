package order_test

import (
	"math/rand"
	"slices"
	"testing"

	"deadwax/api"
)

// checkFirst compares First with the entry that breaks a rule, and the rule.
func checkFirst(t *testing.T, name string, l []api.Entry, number int64, rule int) {
	t.Helper()
	if n, got := first(t, l); n != number || got != rule {
		t.Errorf("%s: %d breaks the rule %d, not %d the rule %d", name, n, got, number, rule)
	}
}

// P11.6: the chapter's examples.
func TestExamplesOfRules(t *testing.T) {
	checkFirst(t, "the example", example(), 0, 0)
	checkFirst(t, "with a shipment", example(ship(10, 18, 71, 40)), 10, api.BreakSleeve)
	checkFirst(t, "without sleeves", example(cancel(11, 19, 2)), 4, api.BreakSleeve)
	checkFirst(t, "nothing", nil, 0, 0)
}

// P11.6: what is just possible, and what is not; stocks and sleeves are 10 at first.
func TestRules(t *testing.T) {
	before := []api.Entry{press(1, 1, 5, 10), sleeves(2, 1, 5, 10), ordered(3, 1, 70, 5, 9, 1), ordered(4, 1, 71, 5, 99, 1), ordered(5, 1, 72, 6, 9, 1)}
	for _, c := range []struct {
		name string
		more []api.Entry
		rule int
	}{
		{"an order twice", []api.Entry{ordered(10, 2, 70, 5, 9, 1)}, api.BreakTwice},
		{"an order twice, for another title", []api.Entry{ordered(10, 2, 70, 7, 1, 1)}, api.BreakTwice},
		{"another order", []api.Entry{ordered(10, 2, 73, 5, 9, 1)}, 0},
		{"a shipment without an order", []api.Entry{ship(10, 2, 73, 1)}, api.BreakOrder},
		{"a return without an order", []api.Entry{back(10, 2, 73, 1)}, api.BreakOrder},
		{"a broken return without an order", []api.Entry{broken(10, 2, 73, 1)}, api.BreakOrder},
		{"a payment without an order", []api.Entry{pay(10, 2, 73, 0)}, api.BreakOrder},
		{"a shipment of all", []api.Entry{ship(10, 2, 70, 9)}, 0},
		{"a shipment of more", []api.Entry{ship(10, 2, 70, 10)}, api.BreakMore},
		{"a shipment of much more", []api.Entry{ship(10, 2, 70, 11)}, api.BreakMore},
		{"a second shipment of more", []api.Entry{ship(6, 2, 70, 8), ship(10, 3, 70, 2)}, api.BreakMore},
		{"what came back is shipped again", []api.Entry{ship(6, 2, 70, 9), back(7, 3, 70, 1), ship(10, 4, 70, 1)}, api.BreakMore},
		{"a shipment of another title", []api.Entry{ship(10, 2, 72, 1)}, api.BreakStock},
		{"a return without a shipment", []api.Entry{back(10, 2, 70, 1)}, api.BreakBack},
		{"a broken return without a shipment", []api.Entry{broken(10, 2, 70, 1)}, api.BreakBack},
		{"a return of all", []api.Entry{ship(6, 2, 70, 4), back(7, 3, 70, 1), broken(8, 3, 70, 3)}, 0},
		{"a return of more", []api.Entry{ship(6, 2, 70, 4), broken(7, 3, 70, 1), back(10, 3, 70, 4)}, api.BreakBack},
		{"a broken return of more", []api.Entry{ship(6, 2, 70, 4), back(7, 3, 70, 1), broken(10, 3, 70, 4)}, api.BreakBack},
		{"a return of what was shipped for another order", []api.Entry{ship(6, 2, 71, 4), back(10, 3, 70, 1)}, api.BreakBack},
		{"a shipment of the stock", []api.Entry{ship(10, 2, 71, 10)}, 0},
		{"a shipment of more than the stock", []api.Entry{ship(10, 2, 71, 11)}, api.BreakStock},
		{"a shipment of more than the stock, with sleeves", []api.Entry{sleeves(6, 2, 5, 90), ship(10, 2, 71, 11)}, api.BreakStock},
		{"a shipment of more than the sleeves", []api.Entry{press(6, 2, 5, 90), ship(10, 2, 71, 11)}, api.BreakSleeve},
		{"a shipment of all sleeves", []api.Entry{press(6, 2, 5, 90), ship(7, 2, 71, 10)}, 0},
		{"a sleeve that came back", []api.Entry{press(6, 2, 5, 90), ship(7, 2, 71, 10), back(8, 3, 71, 1), ship(9, 4, 71, 1)}, 0},
		{"a sleeve that broke", []api.Entry{press(6, 2, 5, 90), ship(7, 2, 71, 10), broken(8, 3, 71, 1), ship(10, 4, 71, 1)}, api.BreakSleeve},
		{"a disc that broke", []api.Entry{sleeves(6, 2, 5, 90), ship(7, 2, 71, 10), broken(8, 3, 71, 1), ship(10, 4, 71, 1)}, api.BreakStock},
		{"tests of all", []api.Entry{test(6, 2, 5, 10)}, 0},
		{"tests of more", []api.Entry{test(10, 2, 5, 11)}, api.BreakStock},
		{"scrap of all", []api.Entry{scrap(6, 2, 5, 10)}, 0},
		{"scrap of more", []api.Entry{scrap(10, 2, 5, 11)}, api.BreakStock},
		{"tests, scrap and a shipment", []api.Entry{test(6, 2, 5, 3), scrap(7, 2, 5, 3), ship(8, 2, 70, 4)}, 0},
		{"tests, scrap and a shipment of more", []api.Entry{test(6, 2, 5, 3), scrap(7, 2, 5, 3), ship(10, 2, 70, 5)}, api.BreakStock},
		{"tests of another title", []api.Entry{test(10, 2, 6, 1)}, api.BreakStock},
		{"a payment of more than is owed", []api.Entry{pay(6, 2, 70, 1000)}, 0},
		{"a shipment that is paid late and comes back late", []api.Entry{ship(6, 2, 70, 9), pay(7, 900, 70, 9), back(8, 1000, 70, 9)}, 0},
		{"two that break a rule", []api.Entry{ship(11, 3, 73, 1), test(10, 2, 5, 11)}, api.BreakStock},
		{"two of the same time that break a rule", []api.Entry{ship(11, 2, 73, 1), test(10, 2, 5, 11)}, api.BreakStock},
	} {
		number := int64(0)
		if c.rule != 0 {
			number = 10
		}
		checkFirst(t, c.name, append(slices.Clone(before), c.more...), number, c.rule)
		checkFirst(t, c.name+", last ones first", append(slices.Clone(c.more), before...), number, c.rule)
	}
}

// P11.6: of several rules the one with the least number.
func TestLeastRule(t *testing.T) {
	order, empty := ordered(1, 1, 70, 5, 2, 1), ordered(2, 1, 71, 5, 9, 1)
	checkFirst(t, "no order, no disc", []api.Entry{ship(3, 2, 70, 1)}, 3, api.BreakOrder)
	checkFirst(t, "too many, no disc", []api.Entry{order, ship(3, 2, 70, 3)}, 3, api.BreakMore)
	checkFirst(t, "too many, no sleeve", []api.Entry{order, press(4, 1, 5, 9), ship(3, 2, 70, 3)}, 3, api.BreakMore)
	checkFirst(t, "no disc, no sleeve", []api.Entry{empty, ship(3, 2, 71, 3)}, 3, api.BreakStock)
	checkFirst(t, "an order after what it needs", []api.Entry{ship(3, 0, 70, 1), order, press(4, 0, 5, 9), sleeves(5, 0, 5, 9)}, 3, api.BreakOrder)
}

// P11.6: an entry counts from where it stands on, also among those of the same time, but is cancelled wherever that is done.
func TestWhenEntriesCount(t *testing.T) {
	l := []api.Entry{press(1, 1, 5, 10), sleeves(2, 1, 5, 10), ordered(3, 2, 0, 5, 9, 1), ship(4, 2, 0, 5)}
	checkFirst(t, "all in time", l, 0, 0)
	late := slices.Clone(l)
	late[0].At = 3
	checkFirst(t, "a late pressing", late, 4, api.BreakStock)
	late[0] = press(9, 2, 5, 10)
	checkFirst(t, "a pressing of the same time, with a greater number", late, 4, api.BreakStock)
	late[0] = press(0, 2, 5, 10)
	checkFirst(t, "a pressing of the same time, with a lower number", late, 0, 0)
	late = slices.Clone(l)
	late[1].At = 3
	checkFirst(t, "late sleeves", late, 4, api.BreakSleeve)
	late = slices.Clone(l)
	late[2].At = 3
	checkFirst(t, "a late order", late, 4, api.BreakOrder)
	late = append(slices.Clone(l), ordered(8, 9, 0, 5, 9, 1))
	checkFirst(t, "an order twice", late, 8, api.BreakTwice)
	checkFirst(t, "an order twice, the second one cancelled", append(late, cancel(9, 0, 8)), 0, 0)
	checkFirst(t, "an order twice, the first one cancelled", append(late, cancel(9, 99, 3)), 4, api.BreakOrder)
	checkFirst(t, "the shipment cancelled", append(late, cancel(9, 99, 3), cancel(10, 99, 4)), 0, 0)
	checkFirst(t, "a cancelled pressing", append(slices.Clone(l), cancel(9, 99, 1)), 4, api.BreakStock)
	checkFirst(t, "a cancelled cancellation", append(slices.Clone(l), cancel(9, 99, 1), cancel(10, 100, 9)), 4, api.BreakStock)
	checkFirst(t, "a cancelled return", append(slices.Clone(l), back(5, 3, 0, 6), cancel(9, 1, 5)), 0, 0)
	checkFirst(t, "the number 0", []api.Entry{ship(0, 0, 0, 1)}, 0, api.BreakOrder)
}

// P11.6
func TestManyRules(t *testing.T) {
	r := rand.New(rand.NewSource(6))
	seen := map[int]int{}
	check := func(l []api.Entry) {
		number, rule := counting(l).first()
		checkFirst(t, "any ledger", l, number, rule)
		if t.Failed() {
			t.Fatalf("with %v", l)
		}
		seen[rule]++
	}
	for range 1000 {
		check(someLedger(r, r.Intn(20)))
		l := goodLedger(r, 30)
		check(l)
		check(append(l, with(someEntry(r, 1000, 30), "At", r.Int63n(30))))
		check(append(l, ship(1000, 10+r.Int63n(10), r.Int63n(4), 1+r.Int63n(9))))
	}
	for rule := range 7 {
		if seen[rule] < 20 {
			t.Errorf("the rule %d was broken in %d ledgers only", rule, seen[rule])
		}
	}
}
