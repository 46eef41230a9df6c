package sleeve_test

import (
	"slices"
	"testing"

	"deadwax/api"
	"deadwax/sleeve"
)

// P10.1: the chapter's examples, and those of the document.
func TestPageExamples(t *testing.T) {
	for _, c := range []struct {
		f    []int
		want []api.Leaf
	}{
		{[]int{left}, []api.Leaf{{Col: 1, Back: true}, {Col: 1}, {}, {Back: true}}},
		{[]int{up}, []api.Leaf{{Row: 1, Back: true, Turned: true}, {Row: 1, Turned: true}, {}, {Back: true}}},
		{[]int{left, up}, []api.Leaf{
			{Row: 1, Back: true, Turned: true}, {Row: 1, Turned: true},
			{Row: 1, Col: 1, Turned: true}, {Row: 1, Col: 1, Back: true, Turned: true},
			{Col: 1, Back: true}, {Col: 1}, {}, {Back: true}}},
		// four rows a b c d: d upon a and c upon b, then b, c (turned again) upon d, a
		{[]int{up, up}, []api.Leaf{
			{Row: 1, Back: true, Turned: true}, {Row: 1, Turned: true},
			{Row: 2}, {Row: 2, Back: true},
			{Row: 3, Back: true, Turned: true}, {Row: 3, Turned: true}, {}, {Back: true}}},
	} {
		if l := pages(t, c.f); !slices.Equal(l, c.want) {
			t.Errorf("Pages of %v: %v, not %v", c.f, l, c.want)
		}
	}
	if n := page(t, []int{left, up}, 1, 0, false); n != 2 {
		t.Errorf("the page at the row 1, the column 0, front: %d", n)
	}
	if n := page(t, []int{left, up}, 0, 1, true); n != 5 {
		t.Errorf("the page at the row 0, the column 1, back: %d", n)
	}
}

// P10.1: the pages of all folds are those of sheets that are folded one fold after another.
func TestPages(t *testing.T) {
	all := foldLists()
	if len(all) != 62 {
		t.Fatalf("%d lists of folds", len(all))
	}
	for _, f := range all {
		if e := sleeve.CheckFolds(f); e != api.OK {
			t.Errorf("CheckFolds of %v: %d", f, e)
		}
		if l, want := pages(t, f), wantedPages(f); !slices.Equal(l, want) {
			t.Errorf("Pages of %v: %v, not %v", f, l, want)
		}
	}
}

// P10.6: each side of each cell has just one page, and Page finds it.
func TestEachPageOnce(t *testing.T) {
	for _, f := range foldLists() {
		l := pages(t, f)
		g := openSheet(f)
		if len(l) != 2<<len(f) || len(l) != 2*len(g)*len(g[0]) {
			t.Fatalf("%v: %d pages", f, len(l))
		}
		found := map[api.Leaf]bool{}
		for i, leaf := range l {
			if n := page(t, f, leaf.Row, leaf.Col, leaf.Back); n != i+1 {
				t.Errorf("%v: the page %d is at %v, where the page %d is", f, i+1, leaf, n)
			}
			found[api.Leaf{Row: leaf.Row, Col: leaf.Col, Back: leaf.Back}] = true
		}
		for row := range g {
			for col := range g[row] {
				for _, back := range []bool{false, true} {
					if !found[api.Leaf{Row: row, Col: col, Back: back}] {
						t.Errorf("%v: no page at %d, %d, %t", f, row, col, back)
					}
					leaf := l[page(t, f, row, col, back)-1]
					leaf.Turned = false
					if leaf != (api.Leaf{Row: row, Col: col, Back: back}) {
						t.Errorf("%v: the page at %d, %d, %t is at %v", f, row, col, back, leaf)
					}
				}
			}
		}
	}
}

// P10.6: both sides of a cell are pages behind each other, and pages that meet are on one side of the sheet.
func TestPagesThatMeet(t *testing.T) {
	for _, f := range foldLists() {
		l := pages(t, f)
		for k := 1; 2*k <= len(l); k++ {
			upper, lower := l[2*k-2], l[2*k-1]
			upper.Back = !upper.Back
			if upper != lower {
				t.Errorf("%v: the pages %d and %d are at %v and %v", f, 2*k-1, 2*k, l[2*k-2], lower)
			}
			if 2*k < len(l) && l[2*k].Back != lower.Back {
				t.Errorf("%v: the pages %d and %d are not on one side", f, 2*k, 2*k+1)
			}
		}
	}
}

// P10.7: the pages of a row are all upright, or all upside down; without FoldUp all are upright.
func TestUpright(t *testing.T) {
	for _, f := range foldLists() {
		turned := map[int]bool{}
		for i, leaf := range pages(t, f) {
			before, known := turned[leaf.Row]
			if known && before != leaf.Turned {
				t.Errorf("%v: the page %d is not as others of its row", f, i+1)
			}
			turned[leaf.Row] = leaf.Turned
			if leaf.Turned && !slices.Contains(f, up) {
				t.Errorf("%v: the page %d is upside down", f, i+1)
			}
		}
		if upside := !turned[len(turned)-1]; slices.Contains(f, up) && upside {
			t.Errorf("%v: the last row was turned over just once, and is upright", f)
		}
	}
}

// P10.1: ErrMany before ErrArg, of all functions.
func TestInvalidFolds(t *testing.T) {
	type wrong struct {
		f []int
		e api.Errno
	}
	cases := []wrong{
		{nil, api.ErrMany},
		{[]int{}, api.ErrMany},
		{slices.Repeat([]int{left}, api.MaxFolds+1), api.ErrMany},
		{slices.Repeat([]int{up}, 1000), api.ErrMany},
		{slices.Repeat([]int{3}, api.MaxFolds+1), api.ErrMany},
		{slices.Repeat([]int{0}, api.MaxFolds), api.ErrArg},
	}
	for _, x := range append(beyond(left, up), 1<<8+1, -1, -2) {
		for _, f := range foldLists() {
			f[len(f)/2] = x
			cases = append(cases, wrong{f, api.ErrArg})
		}
	}
	for _, c := range cases {
		if e := sleeve.CheckFolds(c.f); e != c.e {
			t.Errorf("CheckFolds of %v: %d, not %d", c.f, e, c.e)
		}
		if l, e := sleeve.Pages(c.f); len(l) != 0 || e != c.e {
			t.Errorf("Pages of %v: %v, %d, not %d", c.f, l, e, c.e)
		}
		for _, row := range []int{0, 1, -1, 99} { // their error comes before that of a cell
			if n, e := sleeve.Page(c.f, row, 0, row == 0); n != 0 || e != c.e {
				t.Errorf("Page of %v: %d, %d, not %d", c.f, n, e, c.e)
			}
		}
	}
}

// P10.1
func TestNoSuchCell(t *testing.T) {
	for _, f := range foldLists() {
		g := openSheet(f)
		for _, back := range []bool{false, true} {
			for _, row := range beyond(0, len(g)-1) {
				if n, e := sleeve.Page(f, row, 0, back); n != 0 || e != api.ErrRange {
					t.Errorf("%v: the page at the row %d: %d, %d", f, row, n, e)
				}
			}
			for _, col := range beyond(0, len(g[0])-1) {
				if n, e := sleeve.Page(f, 0, col, back); n != 0 || e != api.ErrRange {
					t.Errorf("%v: the page at the column %d: %d, %d", f, col, n, e)
				}
			}
		}
	}
}
