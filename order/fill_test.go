package order_test

import (
	"math/rand"
	"slices"
	"testing"

	"deadwax/api"
)

// checkFill compares what is lacking, and the filling, with what is wanted.
func checkFill(t *testing.T, name string, l []api.Entry, title int, lack [2]int64, fills ...api.Fill) {
	t.Helper()
	if n := lacking(t, l, title); n != lack {
		t.Errorf("%s: %v are lacking, not %v", name, n, lack)
	}
	if f := filling(t, l, title); !slices.Equal(f, fills) {
		t.Errorf("%s: the filling is %v, not %v", name, f, fills)
	}
}

// P11.7: the chapter's examples.
func TestExamplesOfFilling(t *testing.T) {
	checkFill(t, "the example", example(), 5, [2]int64{51, 67}, api.Fill{Order: 70, Many: 10}, api.Fill{Order: 71, Many: 23})
	checkFill(t, "another title", example(), 6, [2]int64{})
	checkFill(t, "nothing", nil, 5, [2]int64{})
}

// P11.7
func TestFilling(t *testing.T) {
	orders := []api.Entry{ordered(1, 5, 30, 5, 10, 1), ordered(2, 3, 20, 5, 20, 1), ordered(3, 4, 10, 5, 5, 1), ordered(4, 0, 40, 6, 100, 1)}
	for _, c := range []struct {
		name  string
		more  []api.Entry
		lack  [2]int64
		fills []api.Fill
	}{
		{"no disc and no sleeve", nil, [2]int64{35, 35}, nil},
		{"no sleeve", []api.Entry{press(5, 9, 5, 99)}, [2]int64{0, 35}, nil},
		{"no disc", []api.Entry{sleeves(5, 9, 5, 99)}, [2]int64{35, 0}, nil},
		{"discs of another title", []api.Entry{press(5, 9, 7, 99), sleeves(6, 9, 7, 99)}, [2]int64{35, 35}, nil},
		{"one disc", []api.Entry{press(5, 9, 5, 1), sleeves(6, 9, 5, 99)}, [2]int64{34, 0}, []api.Fill{{Order: 20, Many: 1}}},
		{"one sleeve", []api.Entry{press(5, 9, 5, 99), sleeves(6, 9, 5, 1)}, [2]int64{0, 34}, []api.Fill{{Order: 20, Many: 1}}},
		{"just enough for one", []api.Entry{press(5, 9, 5, 20), sleeves(6, 9, 5, 21)}, [2]int64{15, 14}, []api.Fill{{Order: 20, Many: 20}}},
		{"one more than for one", []api.Entry{press(5, 9, 5, 22), sleeves(6, 9, 5, 21)}, [2]int64{13, 14}, []api.Fill{{Order: 20, Many: 20}, {Order: 10, Many: 1}}},
		{"one too few for all", []api.Entry{press(5, 9, 5, 34), sleeves(6, 9, 5, 35)}, [2]int64{1, 0}, []api.Fill{{Order: 20, Many: 20}, {Order: 10, Many: 5}, {Order: 30, Many: 9}}},
		{"just enough for all", []api.Entry{press(5, 9, 5, 35), sleeves(6, 9, 5, 35)}, [2]int64{}, []api.Fill{{Order: 20, Many: 20}, {Order: 10, Many: 5}, {Order: 30, Many: 10}}},
		{"more than enough", []api.Entry{press(5, 9, 5, 99), sleeves(6, 9, 5, 36)}, [2]int64{}, []api.Fill{{Order: 20, Many: 20}, {Order: 10, Many: 5}, {Order: 30, Many: 10}}},
		{"a shipment", []api.Entry{press(5, 9, 5, 40), sleeves(6, 9, 5, 38), ship(7, 9, 20, 15)}, [2]int64{}, []api.Fill{{Order: 20, Many: 5}, {Order: 10, Many: 5}, {Order: 30, Many: 10}}},
		{"an order that is not open", []api.Entry{press(5, 9, 5, 40), sleeves(6, 9, 5, 38), ship(7, 9, 20, 20), broken(8, 9, 20, 3)}, [2]int64{}, []api.Fill{{Order: 10, Many: 5}, {Order: 30, Many: 10}}},
		{"an order for which too many were shipped", []api.Entry{press(5, 9, 5, 40), sleeves(6, 9, 5, 37), ship(7, 9, 20, 27)}, [2]int64{2, 5}, []api.Fill{{Order: 10, Many: 5}, {Order: 30, Many: 5}}},
		{"what came back whole", []api.Entry{press(5, 9, 5, 25), sleeves(6, 9, 5, 25), ship(7, 9, 20, 20), back(8, 9, 20, 2)}, [2]int64{8, 8}, []api.Fill{{Order: 10, Many: 5}, {Order: 30, Many: 2}}},
		{"a stock below 0", []api.Entry{test(5, 9, 5, 3), sleeves(6, 9, 5, 37)}, [2]int64{38, 0}, nil},
		{"sleeves below 0", []api.Entry{press(5, 9, 5, 60), ship(6, 9, 20, 20)}, [2]int64{0, 35}, nil},
		{"a cancelled order", []api.Entry{cancel(5, 0, 2), press(6, 9, 5, 99), sleeves(7, 9, 5, 99)}, [2]int64{}, []api.Fill{{Order: 10, Many: 5}, {Order: 30, Many: 10}}},
	} {
		checkFill(t, c.name, append(slices.Clone(orders), c.more...), 5, c.lack, c.fills...)
	}
}

// P11.7: what lacks where nothing is open is what the stock and the sleeves left are below 0.
func TestLackingWithoutOrders(t *testing.T) {
	checkFill(t, "tests and scrap of nothing", []api.Entry{test(1, 1, 5, 3), scrap(2, 1, 5, 4)}, 5, [2]int64{7, 0})
	checkFill(t, "a shipment of nothing", []api.Entry{ordered(1, 1, 70, 5, 9, 1), ship(2, 1, 70, 9)}, 5, [2]int64{9, 9})
	checkFill(t, "discs and sleeves", []api.Entry{press(1, 1, 5, 3), sleeves(2, 1, 5, 9)}, 5, [2]int64{})
}

// P11.7: orders of the same time come in the order of the numbers of their entries, not in that of Order; a second entry is not looked at.
func TestWhichOrderComesFirst(t *testing.T) {
	l := []api.Entry{press(1, 9, 5, 7), sleeves(2, 9, 5, 8), ordered(4, 1, 20, 5, 5, 1), ordered(3, 1, 30, 5, 5, 1), ordered(5, 1, 10, 5, 5, 1)}
	checkFill(t, "of the same time", l, 5, [2]int64{8, 7}, api.Fill{Order: 30, Many: 5}, api.Fill{Order: 20, Many: 2})
	checkFill(t, "a second entry", append(l, ordered(6, 2, 30, 6, 90, 1), ordered(7, 2, 20, 5, 90, 1)), 5, [2]int64{8, 7}, api.Fill{Order: 30, Many: 5}, api.Fill{Order: 20, Many: 2})
	checkFill(t, "the title of a second entry", append(l, ordered(6, 2, 30, 6, 90, 1)), 6, [2]int64{})
	checkFill(t, "a cancelled entry", append(l, ordered(6, 2, 30, 5, 5, 1), cancel(7, 2, 3)), 5, [2]int64{8, 7}, api.Fill{Order: 20, Many: 5}, api.Fill{Order: 10, Many: 2})
}

// P11.7: 298 orders of the greatest number.
func TestGreatFilling(t *testing.T) {
	var l []api.Entry
	var fills []api.Fill
	for i := range int64(298) {
		l = append(l, ordered(i, 298-i, api.MaxOrders-i, 63, api.MaxMany, api.MaxPrice))
	}
	checkFill(t, "nothing to fill with", l, 63, [2]int64{298 << 20, 298 << 20})
	l = append(l, press(998, 0, 63, api.MaxMany), sleeves(999, 0, 63, api.MaxMany-1))
	fills = append(fills, api.Fill{Order: api.MaxOrders - 297, Many: api.MaxMany - 1})
	checkFill(t, "nearly enough for one", l, 63, [2]int64{297 << 20, 297<<20 + 1}, fills...)
}

// P11.7
func TestManyFillings(t *testing.T) {
	r := rand.New(rand.NewSource(7))
	most := 0
	check := func(l []api.Entry) {
		t.Helper()
		w := counting(l)
		for _, title := range titles() {
			checkFill(t, "any ledger", l, title, w.lacking(title), w.filling(title)...)
			most = max(most, len(w.filling(title)))
		}
		if t.Failed() {
			t.Fatalf("with %v", l)
		}
	}
	for range 1000 {
		check(someLedger(r, r.Intn(30)))
	}
	for range 300 {
		check(goodLedger(r, 40))
	}
	if most < 3 {
		t.Errorf("no filling has more than %d orders", most)
	}
}
