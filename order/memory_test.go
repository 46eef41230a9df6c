package order_test

import (
	"math/rand"
	"slices"
	"testing"

	"deadwax/api"
	"deadwax/order"
)

// R5: no argument is changed, with spare memory behind it or without.
func TestArguments(t *testing.T) {
	r := rand.New(rand.NewSource(5))
	for range 100 {
		l, m := far(r), example()
		before, of := slices.Clone(l), slices.Clone(m)
		for n := range len(l) + 1 {
			told(t, l[:n])
			order.Merge(l[:n], m[:len(m)/2])
			order.Merge(m[:len(m)/2], l[:n])
			order.Merge(l[:n], l[n:])
		}
		if !slices.Equal(l, before) || !slices.Equal(m, of) {
			t.Fatalf("%v was changed to %v, or %v to %v", before, l, of, m)
		}
	}
}

// spoil changes all memory of lists.
func spoil(sales []api.Sale, fills []api.Fill, lists ...[]api.Entry) {
	clear(sales[:cap(sales)])
	clear(fills[:cap(fills)])
	for _, l := range lists {
		clear(l[:cap(l)])
	}
}

// R5: results share no memory with arguments or each other. R10: what was asked between two equal calls makes no difference.
func TestAgain(t *testing.T) {
	r := rand.New(rand.NewSource(10))
	for range 100 {
		l := inOrder(t, far(r))
		before, want := slices.Clone(l), told(t, l)
		told(t, far(r))
		spoil(sales(t, l), filling(t, l, 1), inOrder(t, l), until(t, l, api.MaxStamp), merge(t, l, nil), merge(t, nil, l), merge(t, l, l), parse(t, text(t, l)))
		if got := told(t, l); !slices.Equal(l, before) || got != want {
			t.Fatalf("%v was changed to %v: %s, not %s", before, l, got, want)
		}
		one, other := inOrder(t, l), inOrder(t, l)
		spoil(nil, nil, other)
		if !slices.Equal(one, before) {
			t.Fatalf("%v was changed to %v", before, one)
		}
	}
}

// R3: empty lists are as nil ones.
func TestEmptyLists(t *testing.T) {
	none, empty := told(t, nil), told(t, []api.Entry{})
	if none != empty {
		t.Errorf("%s, but %s", none, empty)
	}
	for _, l := range [][]api.Entry{nil, {}} {
		for _, m := range [][]api.Entry{nil, {}} {
			if both, e := order.Merge(l, m); len(both) != 0 || e != api.OK {
				t.Errorf("Merge of nothing: %v, %d", both, e)
			}
		}
		if both := merge(t, l, example()); !slices.Equal(both, inOrder(t, example())) {
			t.Errorf("the example with nothing: %v", both)
		}
	}
}
