package order_test

import (
	"math/rand"
	"slices"
	"testing"

	"deadwax/api"
	"deadwax/order"
)

// P11.2: by At, and then by Number, each entry once.
func TestInOrder(t *testing.T) {
	l := []api.Entry{press(1, 7, 0, 1), press(9, 2, 0, 1), press(4, 2, 0, 1), cancel(0, 7, 4), press(4, 2, 0, 1), press(30, 0, 0, 1), press(4, 2, 0, 1)}
	want := []api.Entry{l[5], l[2], l[1], l[3], l[0]}
	if in := inOrder(t, l); !slices.Equal(in, want) {
		t.Errorf("%v, not %v", in, want)
	}
	l = example()
	want = slices.Concat(l[:3], l[6:7], l[3:6], l[7:])
	if in := inOrder(t, l); !slices.Equal(in, want) {
		t.Errorf("the example: %v, not %v", in, want)
	}
	if in := inOrder(t, nil); len(in) != 0 {
		t.Errorf("nothing: %v", in)
	}
	if in := inOrder(t, slices.Repeat(presses(150), 2)); !slices.Equal(in, presses(150)) {
		t.Errorf("twice 150 entries: %v", in)
	}
	l = []api.Entry{press(0, api.MaxStamp, 0, 1), press(api.MaxStamp, 1<<32, 0, 1), press(1<<32, 1<<32, 0, 1), press(1, 1<<32+1, 0, 1), press(2, 1, 0, 1)}
	want = []api.Entry{l[4], l[2], l[1], l[3], l[0]}
	if in := inOrder(t, l); !slices.Equal(in, want) {
		t.Errorf("great numbers: %v, not %v", in, want)
	}
}

// P11.2
func TestManyInOrder(t *testing.T) {
	r := rand.New(rand.NewSource(2))
	for range 500 {
		l := someLedger(r, r.Intn(20))
		if in := inOrder(t, l); !slices.Equal(in, wantedInOrder(l)) {
			t.Fatalf("%v: %v, not %v", l, in, wantedInOrder(l))
		}
	}
}

// P11.2
func TestMerge(t *testing.T) {
	r := rand.New(rand.NewSource(22))
	for range 500 {
		all := someLedger(r, r.Intn(20))
		var l, m []api.Entry
		for _, e := range all {
			which := r.Intn(3)
			if which < 2 {
				l = append(l, e)
			}
			if which > 0 {
				m = append(m, e)
			}
		}
		if both := merge(t, l, m); !slices.Equal(both, wantedInOrder(all)) {
			t.Fatalf("%v and %v: %v, not %v", l, m, both, wantedInOrder(all))
		}
	}
	if both := merge(t, nil, []api.Entry{}); len(both) != 0 {
		t.Errorf("nothing and nothing: %v", both)
	}
	if both := merge(t, presses(300), presses(300)); !slices.Equal(both, presses(300)) {
		t.Errorf("300 entries twice: %d", len(both))
	}
	if both := merge(t, presses(300)[150:], presses(151)); !slices.Equal(both, presses(300)) {
		t.Errorf("150 and 151 entries, with one in both: %d", len(both))
	}
}

// P11.2
func TestErrorsOfMerge(t *testing.T) {
	many, bad, have := presses(301), []api.Entry{press(1, 5, 3, 0)}, []api.Entry{press(1, 5, 3, 1), press(1, 5, 3, 2)}
	for _, c := range []struct {
		name string
		l, m []api.Entry
		want api.Errno
	}{
		{"the errors of both", many, bad, api.ErrMany},
		{"the errors of both", bad, many, api.ErrArg},
		{"the errors of both", have, many, api.ErrHave},
		{"the errors of both", have, bad, api.ErrHave},
		{"the error of the second one", presses(300), bad, api.ErrArg},
		{"the error of the second one", presses(300), many, api.ErrMany},
		{"the error of the second one", []api.Entry{press(1, 5, 3, 3)}, bad, api.ErrArg},
		{"a different entry", presses(5), []api.Entry{press(4, 5, 3, 2)}, api.ErrHave},
		{"a different entry", []api.Entry{press(0, 6, 3, 1)}, presses(5), api.ErrHave},
		{"a different entry, the same one before", presses(5), []api.Entry{press(4, 5, 3, 1), press(3, 5, 2, 1)}, api.ErrHave},
		{"a different entry among too many", presses(300), []api.Entry{press(300, 5, 3, 1), press(7, 5, 3, 2)}, api.ErrHave},
		{"a different entry among 300", presses(300), []api.Entry{press(299, 5, 4, 1)}, api.ErrHave},
		{"301 entries", presses(300), presses(301)[300:], api.ErrMany},
		{"301 entries", presses(301)[150:], presses(151)[:150], api.ErrMany},
		{"301 entries, of which one is in both", presses(301)[150:], presses(151), api.ErrMany},
	} {
		if both, e := order.Merge(c.l, c.m); e != c.want || len(both) != 0 {
			t.Errorf("%s: %v, %d, not %d", c.name, both, e, c.want)
		}
	}
}

// P11.2
func TestUntil(t *testing.T) {
	r := rand.New(rand.NewSource(23))
	for range 300 {
		l := someLedger(r, r.Intn(20))
		for at := range int64(8) {
			want := slices.DeleteFunc(wantedInOrder(l), func(e api.Entry) bool { return e.At > at })
			if m := until(t, l, at); !slices.Equal(m, want) {
				t.Fatalf("%d of %v: %v, not %v", at, l, m, want)
			}
		}
	}
	l := []api.Entry{press(2, api.MaxStamp, 0, 1), press(3, 1<<32, 0, 1), press(1, 0, 0, 1), cancel(4, 1<<32+1, 3)}
	for at, want := range map[int64][]api.Entry{0: {l[2]}, 1<<32 - 1: {l[2]}, 1 << 32: {l[2], l[1]}, api.MaxStamp - 1: {l[2], l[1], l[3]}, api.MaxStamp: {l[2], l[1], l[3], l[0]}} {
		if m := until(t, l, at); !slices.Equal(m, want) {
			t.Errorf("%d: %v, not %v", at, m, want)
		}
	}
	for _, at := range beyond(0, api.MaxStamp) {
		for _, l := range [][]api.Entry{nil, l} {
			if m, e := order.Until(l, at); e != api.ErrRange || len(m) != 0 {
				t.Errorf("%d of %v: %v, %d", at, l, m, e)
			}
		}
	}
}
