package order_test

import (
	"fmt"
	"math/rand"
	"slices"
	"strings"
	"testing"

	"deadwax/api"
	"deadwax/order"
)

// checkText compares the text of a ledger with what is wanted, and what is read of it with the ledger in order.
func checkText(t *testing.T, l []api.Entry, want string) {
	t.Helper()
	if s := text(t, l); s != want {
		t.Errorf("Text of %v: %q, not %q", l, s, want)
	}
	if m := parse(t, want); !slices.Equal(m, wantedInOrder(l)) {
		t.Errorf("Parse of %q: %v, not %v", want, m, wantedInOrder(l))
	}
}

// P11.8
func TestTexts(t *testing.T) {
	checkText(t, nil, "")
	checkText(t, []api.Entry{}, "")
	checkText(t, []api.Entry{press(1, 10, 5, 100)}, "press 1 10 5 100\n")
	checkText(t, []api.Entry{sleeves(2, 11, 5, 80)}, "sleeves 2 11 5 80\n")
	checkText(t, []api.Entry{ordered(3, 12, 70, 5, 60, 20)}, "order 3 12 70 5 60 20\n")
	checkText(t, []api.Entry{ship(4, 13, 70, 50)}, "ship 4 13 70 50\n")
	checkText(t, []api.Entry{back(5, 14, 70, 3)}, "return 5 14 70 3 whole\n")
	checkText(t, []api.Entry{broken(6, 15, 70, 2)}, "return 6 15 70 2\n")
	checkText(t, []api.Entry{test(9, 17, 5, 4)}, "test 9 17 5 4\n")
	checkText(t, []api.Entry{scrap(9, 17, 5, 4)}, "scrap 9 17 5 4\n")
	checkText(t, []api.Entry{pay(8, 16, 70, 500)}, "pay 8 16 70 500\n")
	checkText(t, []api.Entry{cancel(11, 19, 2)}, "cancel 11 19 2\n")
	checkText(t, example(), "press 1 10 5 100\nsleeves 2 11 5 80\norder 3 12 70 5 60 20\norder 7 12 71 5 90 10\nship 4 13 70 50\nreturn 5 14 70 3 whole\nreturn 6 15 70 2\npay 8 16 70 500\ntest 9 17 5 4\n")
	checkText(t, []api.Entry{cancel(3, 9, 3), cancel(1, 10, 3), press(3, 0, 0, 1)}[1:], "press 3 0 0 1\ncancel 1 10 3\n")
	for kind := range kinds() {
		checkText(t, []api.Entry{least(kind)}, wantedText([]api.Entry{least(kind)}))
		checkText(t, []api.Entry{greatest(kind)}, wantedText([]api.Entry{greatest(kind)}))
	}
}

// P11.8, P11.15
func TestManyTexts(t *testing.T) {
	r := rand.New(rand.NewSource(8))
	for range 300 {
		l := someLedger(r, r.Intn(30))
		checkText(t, l, wantedText(l))
	}
	var l []api.Entry
	for i := range int64(300) {
		e := greatest(int(i%9) + 1)
		e.Number -= i
		l = append(l, e)
	}
	checkText(t, l, wantedText(l))
}

// noText fails the test if Parse reads a text.
func noText(t *testing.T, s string, want api.Errno) {
	t.Helper()
	if l, e := order.Parse(s); e != want || len(l) != 0 {
		t.Errorf("Parse of %.200q with %d bytes: %v, %d, not %d", s, len(s), l, e, want)
	}
}

// P11.8
func TestLongTexts(t *testing.T) {
	noText(t, strings.Repeat("x", api.MaxText), api.ErrForm)
	noText(t, strings.Repeat("x", api.MaxText+1), api.ErrLong)
	noText(t, strings.Repeat("\n", api.MaxText), api.ErrForm)
	noText(t, strings.Repeat("\n", api.MaxText+1), api.ErrLong)
	noText(t, strings.Repeat(" ", 1<<20), api.ErrLong)
	noText(t, strings.Repeat("\u00e9", api.MaxText/2), api.ErrForm)
	noText(t, strings.Repeat("\u00e9", api.MaxText/2+1), api.ErrLong)
	s := "press 1 10 5 100\n"
	noText(t, s+strings.Repeat("0", api.MaxText-len(s)), api.ErrForm)
	noText(t, s+strings.Repeat("0", api.MaxText-len(s)+1), api.ErrLong)
	noText(t, strings.Repeat(s, api.MaxText/len(s)+1), api.ErrLong)
	checkText(t, presses(300), wantedText(presses(300)))
	noText(t, wantedText(presses(301)), api.ErrForm)
	noText(t, wantedText(presses(2000)), api.ErrForm)
}

// P11.8: lines that are not of the form, alone and after others.
func TestOtherLines(t *testing.T) {
	good := "sleeves 0 0 5 80\n"
	for _, s := range []string{
		"\n", " \n", "x\n", "0\n", "press\n", "press 1\n", "press 1 10\n", "press 1 10 5\n", "press 1 10 5 \n", "press 1 10 5 100", "press 1 10 5 100\r\n", "press 1 10 5 100\x00\n",
		" press 1 10 5 100\n", "press  1 10 5 100\n", "press 1 10  5 100\n", "press 1 10 5 100 \n", "press\t1 10 5 100\n", "press 1 10 5\t100\n", "press 1 10 5 100 0\n", "press 1 10 5 100 whole\n",
		"Press 1 10 5 100\n", "PRESS 1 10 5 100\n", "presses 1 10 5 100\n", "pres 1 10 5 100\n", "1 1 10 5 100\n", "lift 1 10\n", "lift 1 10 5 100\n", " 1 10 5 100\n", "1 10 5 100\n",
		"press 01 10 5 100\n", "press 1 010 5 100\n", "press 1 10 05 100\n", "press 1 10 5 0100\n", "press +1 10 5 100\n", "press 1 10 5 +100\n", "press -0 10 5 100\n", "press 1 -0 5 100\n", "press 1 10 -0 100\n", "press 00 10 5 100\n",
		"press 0x1 10 5 100\n", "press 1e0 10 5 100\n", "press 1.0 10 5 100\n", "press 1_0 10 5 100\n", "press 1 10 5 1,000\n", "press a 10 5 100\n", "press 1 10 5 many\n", "press \uff11 10 5 100\n",
		"press -1 10 5 100\n", "press 1 -1 5 100\n", "press 1 10 -1 100\n", "press 1 10 64 100\n", "press 1 10 5 0\n", "press 1 10 5 -1\n", "press 1 10 5 1048577\n", "press 1099511627777 10 5 100\n", "press 1 1099511627777 5 100\n",
		"press 9223372036854775808 10 5 100\n", "press 18446744073709551617 10 5 100\n", "press 1 10 4294967301 100\n", "press 1 10 5 18446744073709551716\n", "press 1 10 18446744073709551621 100\n",
		"sleeves 1 10 70 5 100\n", "order 3 12 70 5 60\n", "order 3 12 70 5 60 20 1\n", "order 3 12 70 5 0 20\n", "order 3 12 70 5 60 -20\n", "order 3 12 70 5 60 1048577\n", "order 3 12 1073741825 5 60 20\n", "order 3 12 70 64 60 20\n",
		"ship 4 13 70\n", "ship 4 13 70 0\n", "ship 4 13 70 5 50\n", "ship 4 13 70 50 whole\n", "return 5 14 70 3 half\n", "return 5 14 70 3 Whole\n", "return 5 14 70 3 whole whole\n", "return 5 14 70 3 whole \n", "return 5 14 70 3 \n", "return 5 14 70 whole 3\n", "return 5 14 70 whole\n",
		"return 5 14 70 3 true\n", "return 5 14 70 3 0\n", "return 5 14 70 3  whole\n", "test 9 17 5\n", "test 9 17 70 5 4\n", "scrap 9 17 5\n", "pay 8 16 70\n", "pay 8 16 70 -1\n", "pay 8 16 5 70 500\n", "cancel 11 19\n", "cancel 11 19 -1\n", "cancel 11 19 2 3\n", "cancel 11 19 1099511627777\n",
		"press 1 10 5 100\n\n", "\npress 1 10 5 100\n", "press 1 10 5 100\n ", "press 1 10 5 100\npress", "press 1 10 5 100\nship 4 13 70 50", "press 1 10 5 100\n\x00", "press 1 10 5 100 press 2 10 5 100\n", "press 1 10 5 100\n\nship 4 13 70 50\n", "\ufeffpress 1 10 5 100\n",
	} {
		noText(t, s, api.ErrForm)
		noText(t, good+s, api.ErrForm)
	}
	checkText(t, []api.Entry{sleeves(0, 0, 5, 80)}, good)
}

// P11.8: entries that are not in order, stand twice, or are different.
func TestTextsThatAreNoLedgers(t *testing.T) {
	for _, s := range []string{
		"press 2 1 0 1\npress 1 1 0 1\n",
		"press 1 2 0 1\npress 2 1 0 1\n",
		"press 1 1 0 1\npress 1 1 0 1\n",
		"press 1 1 0 1\npress 1 1 0 2\n",
		"press 1 1 0 1\npress 1 2 0 1\n",
		"press 1 1 0 1\nscrap 1 1 0 1\n",
		"press 1 1 0 1\npress 2 1 0 1\npress 1 2 0 1\n",
		"press 1 1 0 1\npress 3 1 0 1\npress 2 1 0 1\n",
	} {
		noText(t, s, api.ErrForm)
	}
	checkText(t, []api.Entry{press(1, 2, 0, 1), press(2, 1, 0, 1)}, "press 2 1 0 1\npress 1 2 0 1\n")
}

// P11.15: whatever Parse reads, Text has written; each change of a text in one place is read as another ledger, or not at all.
func TestParseReadsJustWhatTextWrites(t *testing.T) {
	s := text(t, example(cancel(10, 18, 4), scrap(0, 0, 0, 1)))
	const others = "\n 0123456789-+abcdehlnoprstuwy\x00\xff"
	read := 0
	try := func(s string) {
		t.Helper()
		l, e := order.Parse(s)
		if e == api.OK {
			read++
			if again, e := order.Text(l); e != api.OK || again != s || order.CheckLedger(l) != api.OK || !slices.Equal(l, wantedInOrder(l)) {
				t.Errorf("Parse of %q: %v, and then %q, %d", s, l, again, e)
			}
		} else if e != api.ErrForm || len(l) != 0 {
			t.Errorf("Parse of %q: %v, %d", s, l, e)
		}
	}
	for i := range s {
		try(s[:i] + s[i+1:])
		try(s[:i])
		try(s[i:])
		for _, x := range []byte(others) {
			try(s[:i] + string([]byte{x}) + s[i:])
			try(s[:i] + string([]byte{x}) + s[i+1:])
		}
	}
	if read < 200 {
		t.Errorf("only %d texts were read", read)
	}
}

// P11.15: lines of many words, of which few are of the form.
func TestParseOfManyLines(t *testing.T) {
	r := rand.New(rand.NewSource(15))
	words := []string{"press", "sleeves", "order", "ship", "return", "test", "scrap", "pay", "cancel"}
	read := 0
	for range 20000 {
		line := words[r.Intn(len(words))]
		for range 3 + r.Intn(4) {
			line += fmt.Sprintf(" %d", r.Intn(9)-1)
		}
		line += map[int]string{0: " whole"}[r.Intn(3)] + "\n"
		l, e := order.Parse(line)
		if e == api.OK {
			read++
			if len(l) != 1 || wantedText(l) != line || order.CheckEntry(l[0]) != api.OK {
				t.Fatalf("%q: %v", line, l)
			}
		} else if e != api.ErrForm {
			t.Fatalf("%q: %v, %d", line, l, e)
		}
	}
	if read < 1000 {
		t.Errorf("only %d lines were read", read)
	}
}
