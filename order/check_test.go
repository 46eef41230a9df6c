package order_test

import (
	"math"
	"math/rand"
	"slices"
	"testing"

	"deadwax/api"
	"deadwax/order"
)

// checkEntry compares CheckEntry, and all that reads a ledger of this entry, with what is wanted.
func checkEntry(t *testing.T, e api.Entry, want api.Errno) {
	t.Helper()
	if got := order.CheckEntry(e); got != want {
		t.Errorf("CheckEntry of %+v: %d, not %d", e, got, want)
	}
	if got := order.CheckLedger([]api.Entry{press(1<<39, 0, 0, 1), e}); got != want {
		t.Errorf("CheckLedger with %+v: %d, not %d", e, got, want)
	}
}

// P11.1: what the kinds name, from the least to the greatest, and beyond.
func TestWhatKindsName(t *testing.T) {
	for kind, names := range kinds() {
		checkEntry(t, least(kind), api.OK)
		checkEntry(t, greatest(kind), api.OK)
		for _, e := range []api.Entry{least(kind), greatest(kind)} {
			for _, field := range append([]string{"Number", "At"}, names...) {
				from, to := ranges()[field][0], ranges()[field][1]
				for _, n := range []int64{from, from + 1, to - 1, to} {
					checkEntry(t, with(e, field, n), api.OK)
				}
				for _, n := range beyond(from, to) {
					if field != "Whole" {
						checkEntry(t, with(e, field, n), api.ErrArg)
					}
				}
			}
		}
	}
}

// P11.1: all that a kind does not name is 0 or false.
func TestWhatKindsDoNotName(t *testing.T) {
	for kind, names := range kinds() {
		for field := range ranges() {
			if field == "Number" || field == "At" || slices.Contains(names, field) {
				continue
			}
			for _, n := range []int64{1, -1, ranges()[field][1], math.MinInt64, math.MaxInt64, 1 << 32} {
				if field == "Whole" {
					n = 1
				}
				checkEntry(t, with(least(kind), field, n), api.ErrArg)
				checkEntry(t, with(greatest(kind), field, n), api.ErrArg)
			}
		}
	}
}

// P11.1, R7
func TestKindsThatThereAreNot(t *testing.T) {
	for _, kind := range beyond(api.EntryPress, api.EntryCancel) {
		checkEntry(t, api.Entry{Kind: int(kind)}, api.ErrArg)
		checkEntry(t, api.Entry{Kind: int(kind), Many: 1}, api.ErrArg)
		for other := range kinds() {
			e := least(other)
			e.Kind = int(kind)
			checkEntry(t, e, api.ErrArg)
		}
	}
	checkEntry(t, api.Entry{}, api.ErrArg)
}

// checkLedger compares CheckLedger and InOrder with what is wanted.
func checkLedger(t *testing.T, name string, l []api.Entry, want api.Errno) {
	t.Helper()
	if e := order.CheckLedger(l); e != want {
		t.Errorf("%s: %d, not %d", name, e, want)
	}
	if in, e := order.InOrder(l); e != want || e != api.OK && len(in) != 0 {
		t.Errorf("InOrder of %s: %v, %d, not %d", name, in, e, want)
	}
}

// P11.1
func TestHowManyEntries(t *testing.T) {
	bad := api.Entry{}
	checkLedger(t, "none", nil, api.OK)
	checkLedger(t, "an empty list", []api.Entry{}, api.OK)
	checkLedger(t, "299", presses(299), api.OK)
	checkLedger(t, "300", presses(300), api.OK)
	checkLedger(t, "301", presses(301), api.ErrMany)
	checkLedger(t, "602", presses(602), api.ErrMany)
	checkLedger(t, "300 times the same", slices.Repeat(presses(1), 300), api.OK)
	checkLedger(t, "301 times the same", slices.Repeat(presses(1), 301), api.ErrMany)
	checkLedger(t, "301 that are not valid", slices.Repeat([]api.Entry{bad}, 301), api.ErrMany)
	checkLedger(t, "301, of which one is not valid", append(presses(300), bad), api.ErrMany)
	checkLedger(t, "301, of which two are different", append(presses(300), press(7, 5, 3, 2)), api.ErrMany)
	checkLedger(t, "300, of which the last one is not valid", append(presses(299), bad), api.ErrArg)
	checkLedger(t, "300, of which the first one is not valid", append([]api.Entry{bad}, presses(299)...), api.ErrArg)
	checkLedger(t, "300, of which two are different", append(presses(299), press(0, 5, 3, 2)), api.ErrHave)
}

// P11.1: entries with the same number, different in one field only, side by side and far away from each other.
func TestDifferentEntries(t *testing.T) {
	for kind, names := range kinds() {
		e := greatest(kind)
		e.Number, e.At = 1000, 17
		checkLedger(t, "twice the same", []api.Entry{e, e}, api.OK)
		checkLedger(t, "twice the same with others", append(append([]api.Entry{e}, presses(250)...), e), api.OK)
		checkLedger(t, "two numbers", []api.Entry{e, with(e, "Number", 1001)}, api.OK)
		for _, field := range append([]string{"At"}, names...) {
			other := with(e, field, ranges()[field][0])
			checkLedger(t, "another "+field, []api.Entry{e, other}, api.ErrHave)
			checkLedger(t, "another "+field+" before", []api.Entry{other, e}, api.ErrHave)
			checkLedger(t, "another "+field+" after the same", []api.Entry{e, e, e, other}, api.ErrHave)
			checkLedger(t, "another "+field+" far away", append(append([]api.Entry{e}, presses(250)...), other), api.ErrHave)
		}
	}
	checkLedger(t, "another kind", []api.Entry{press(4, 1, 2, 3), scrap(4, 1, 2, 3)}, api.ErrHave)
	checkLedger(t, "a cancelled one that is different", []api.Entry{press(4, 1, 2, 3), cancel(5, 0, 4), press(4, 1, 2, 2)}, api.ErrHave)
	different := []api.Entry{press(4, 1, 2, 3), press(4, 1, 2, 4)}
	checkLedger(t, "different ones, and then one that is not valid", append(different, press(5, 1, 2, 0)), api.ErrArg)
	checkLedger(t, "different ones, of which one is not valid", []api.Entry{press(4, 1, 2, 3), press(4, 1, 2, 0)}, api.ErrArg)
}

// badLedger is a ledger that is none.
type badLedger struct {
	l    []api.Entry
	want api.Errno
}

func badLedgers() []badLedger {
	return []badLedger{
		{presses(301), api.ErrMany},
		{append(presses(301), api.Entry{}), api.ErrMany},
		{[]api.Entry{{}}, api.ErrArg},
		{example(press(10, 18, 64, 1)), api.ErrArg},
		{example(press(1, 10, 5, 99)), api.ErrHave},
		{example(press(1, 10, 5, 99), ship(10, 18, 5, 0)), api.ErrArg},
	}
}

// P11.1 to P11.8: the error of CheckLedger comes before all others, and nothing else comes with it.
func TestErrorsOfLedgers(t *testing.T) {
	for _, c := range badLedgers() {
		for _, n := range []int{5, 64, -1, math.MinInt, math.MaxInt} {
			checkNone(t, c.l, n, c.want, c.want, c.want)
		}
	}
}

// checkNone asks for a title, an order and a rate with this number, and wants errors and zero values of all functions.
func checkNone(t *testing.T, l []api.Entry, n int, ofTitle, ofOrder, ofLedger api.Errno) {
	t.Helper()
	same := func(name string, e, want api.Errno, zero bool) {
		t.Helper()
		if e != want || !zero {
			t.Errorf("%s with %d of %v: %d, not %d, or no zero value", name, n, l, e, want)
		}
	}
	s, e := order.Shelf(l, n)
	same("Shelf", e, ofTitle, s == api.Shelf{})
	a, b, c, e := order.Stock(l, n)
	same("Stock", e, ofTitle, a == 0 && b == 0 && c == 0)
	a, e = order.Rights(l, n, int64(n))
	same("Rights", e, ofTitle, a == 0)
	a, b, e = order.Lacking(l, n)
	same("Lacking", e, ofTitle, a == 0 && b == 0)
	f, e := order.Filling(l, n)
	same("Filling", e, ofTitle, len(f) == 0)
	a, e = order.Owes(l, int64(n))
	same("Owes", e, ofOrder, a == 0)
	if ofLedger != api.OK {
		checkNoLedger(t, l, n, same, ofLedger)
	}
}

func checkNoLedger(t *testing.T, l []api.Entry, n int, same func(string, api.Errno, api.Errno, bool), want api.Errno) {
	t.Helper()
	m, e := order.InOrder(l)
	same("InOrder", e, want, len(m) == 0)
	m, e = order.Until(l, int64(n))
	same("Until", e, want, len(m) == 0)
	m, e = order.Merge(l, nil)
	same("Merge with nothing", e, want, len(m) == 0)
	m, e = order.Merge(example(), l)
	same("Merge", e, want, len(m) == 0)
	sales, e := order.Sales(l)
	same("Sales", e, want, len(sales) == 0)
	number, rule, e := order.First(l)
	same("First", e, want, number == 0 && rule == 0)
	text, e := order.Text(l)
	same("Text", e, want, text == "")
}

// P11.3, P11.5, P11.7: the error of a title; P11.4: an order that has no entry.
func TestErrorsOfTitles(t *testing.T) {
	r := rand.New(rand.NewSource(3))
	for _, title := range beyond(0, api.MaxTitles-1) {
		for _, l := range [][]api.Entry{nil, example(), someLedger(r, 12)} {
			checkNone(t, l, int(title), api.ErrRange, api.ErrNone, api.OK)
		}
	}
}
