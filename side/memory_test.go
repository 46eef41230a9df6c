package side_test

import (
	"math/rand"
	"reflect"
	"slices"
	"testing"

	"deadwax/api"
	"deadwax/side"
)

// R5: no argument is changed.
func TestArguments(t *testing.T) {
	formats, l := []api.Format{example(), costing(7)}, examples()
	order, crowd := []int{1, 0, 2}, []int{0, 1, 2}
	plan, prices := []api.Face{{Many: 1}, {Many: 2}}, []int64{0, 5, 10, 10}
	side.Lay(formats[0], l, order)
	side.Arrange(formats[0], l)
	side.Crowd(formats[0], l)
	side.CheckCrowd(formats[0], l, crowd)
	side.Pack(formats[0], l)
	side.Fewest(formats[0], l)
	side.Album(formats, l)
	side.Cost(formats, l, plan)
	side.Prices(formats, l)
	side.CheckPrices(formats, l, prices)
	if !slices.Equal(formats, []api.Format{example(), costing(7)}) || !slices.Equal(l, examples()) {
		t.Errorf("formats or tracks were changed: %v, %v", formats, l)
	}
	if !slices.Equal(order, []int{1, 0, 2}) || !slices.Equal(crowd, []int{0, 1, 2}) {
		t.Errorf("an order or a crowd was changed: %v, %v", order, crowd)
	}
	if !slices.Equal(plan, []api.Face{{Many: 1}, {Many: 2}}) || !slices.Equal(prices, []int64{0, 5, 10, 10}) {
		t.Errorf("a plan or prices were changed: %v, %v", plan, prices)
	}
}

// answers are the results of all functions that return lists.
type answers struct {
	bands        []api.Band
	order, crowd []int
	plan         []api.Face
	prices       []int64
	packing      []int
	numbers      [5]int64
	errors       [8]api.Errno
}

func ask(f api.Format, l []api.Track) answers {
	var a answers
	formats := []api.Format{f, example()}
	var many, sides, fewest, wrong int
	a.bands, many, a.errors[0] = side.Lay(f, l, upTo(len(l)))
	a.order, a.errors[1] = side.Arrange(f, l)
	a.crowd, a.errors[2] = side.Crowd(f, l)
	a.plan, a.numbers[0], a.errors[3] = side.Album(formats, l)
	a.prices, a.errors[4] = side.Prices(formats, l)
	a.packing, sides, a.errors[5] = side.Pack(f, l)
	fewest, a.errors[6] = side.Fewest(f, l)
	wrong, a.errors[7] = side.CheckPrices(formats, l, make([]int64, len(l)+1))
	for i, n := range []int{many, sides, fewest, wrong} {
		a.numbers[i+1] = int64(n)
	}
	return a
}

// R5: results share no memory. R10: what was asked between two equal calls makes no difference.
func TestAgain(t *testing.T) {
	r := rand.New(rand.NewSource(10))
	type question struct {
		f api.Format
		l []api.Track
	}
	var questions []question
	var first []answers
	for range 200 {
		q := question{someFormat(r), someTracks(r, 6)}
		questions = append(questions, q)
		first = append(first, ask(q.f, q.l))
	}
	for i, q := range questions {
		a := ask(q.f, q.l)
		if !reflect.DeepEqual(a, first[i]) {
			t.Errorf("%v: %v, then %v", q, first[i], a)
		}
		clear(a.bands[:cap(a.bands)])
		clear(a.order[:cap(a.order)])
		clear(a.crowd[:cap(a.crowd)])
		clear(a.plan[:cap(a.plan)])
		clear(a.prices[:cap(a.prices)])
		clear(a.packing[:cap(a.packing)])
		if again := ask(q.f, q.l); !reflect.DeepEqual(again, first[i]) {
			t.Errorf("a change of results changed others: %v, then %v", first[i], again)
		}
	}
}
