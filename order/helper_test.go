package order_test

import (
	"fmt"
	"math"
	"math/big"
	"math/rand"
	"slices"
	"testing"

	"deadwax/api"
	"deadwax/order"
)

func press(number, at int64, title int, many int64) api.Entry {
	return api.Entry{Number: number, At: at, Kind: api.EntryPress, Title: title, Many: many}
}

func sleeves(number, at int64, title int, many int64) api.Entry {
	return api.Entry{Number: number, At: at, Kind: api.EntrySleeves, Title: title, Many: many}
}

func ordered(number, at, order int64, title int, many, price int64) api.Entry {
	return api.Entry{Number: number, At: at, Kind: api.EntryOrder, Order: order, Title: title, Many: many, Price: price}
}

func ship(number, at, order, many int64) api.Entry {
	return api.Entry{Number: number, At: at, Kind: api.EntryShip, Order: order, Many: many}
}

func back(number, at, order, many int64) api.Entry {
	return api.Entry{Number: number, At: at, Kind: api.EntryReturn, Order: order, Many: many, Whole: true}
}

func broken(number, at, order, many int64) api.Entry {
	return api.Entry{Number: number, At: at, Kind: api.EntryReturn, Order: order, Many: many}
}

func test(number, at int64, title int, many int64) api.Entry {
	return api.Entry{Number: number, At: at, Kind: api.EntryTest, Title: title, Many: many}
}

func scrap(number, at int64, title int, many int64) api.Entry {
	return api.Entry{Number: number, At: at, Kind: api.EntryScrap, Title: title, Many: many}
}

func pay(number, at, order, price int64) api.Entry {
	return api.Entry{Number: number, At: at, Kind: api.EntryPay, Order: order, Price: price}
}

func cancel(number, at, of int64) api.Entry {
	return api.Entry{Number: number, At: at, Kind: api.EntryCancel, Of: of}
}

// example is the ledger of the chapter's examples, as it stands there, with more entries.
func example(more ...api.Entry) []api.Entry {
	l := []api.Entry{
		press(1, 10, 5, 100), sleeves(2, 11, 5, 80), ordered(3, 12, 70, 5, 60, 20), ship(4, 13, 70, 50), back(5, 14, 70, 3),
		broken(6, 15, 70, 2), ordered(7, 12, 71, 5, 90, 10), pay(8, 16, 70, 500), test(9, 17, 5, 4),
	}
	return append(l, more...)
}

// kinds are those of entries, with what each of them names.
func kinds() map[int][]string {
	return map[int][]string{
		api.EntryPress:   {"Title", "Many"},
		api.EntrySleeves: {"Title", "Many"},
		api.EntryOrder:   {"Order", "Title", "Many", "Price"},
		api.EntryShip:    {"Order", "Many"},
		api.EntryReturn:  {"Order", "Many", "Whole"},
		api.EntryTest:    {"Title", "Many"},
		api.EntryScrap:   {"Title", "Many"},
		api.EntryPay:     {"Order", "Price"},
		api.EntryCancel:  {"Of"},
	}
}

// ranges are the least and the greatest that fields of an entry say, if its kind names them.
func ranges() map[string][2]int64 {
	return map[string][2]int64{
		"Number": {0, api.MaxStamp},
		"At":     {0, api.MaxStamp},
		"Title":  {0, api.MaxTitles - 1},
		"Order":  {0, api.MaxOrders},
		"Many":   {1, api.MaxMany},
		"Price":  {0, api.MaxPrice},
		"Of":     {0, api.MaxStamp},
		"Whole":  {0, 1},
	}
}

// with returns an entry with another number in a field; in Whole 1 stands for true.
func with(e api.Entry, field string, n int64) api.Entry {
	switch field {
	case "Number":
		e.Number = n
	case "At":
		e.At = n
	case "Title":
		e.Title = int(n)
	case "Order":
		e.Order = n
	case "Many":
		e.Many = n
	case "Price":
		e.Price = n
	case "Of":
		e.Of = n
	case "Whole":
		e.Whole = n == 1
	}
	return e
}

// least is the entry of a kind in which everything is as little as it can be.
func least(kind int) api.Entry {
	e := api.Entry{Kind: kind}
	for _, field := range kinds()[kind] {
		e = with(e, field, ranges()[field][0])
	}
	return e
}

// greatest is the entry of a kind in which everything is as great as it can be.
func greatest(kind int) api.Entry {
	e := api.Entry{Kind: kind, Number: api.MaxStamp, At: api.MaxStamp}
	for _, field := range kinds()[kind] {
		e = with(e, field, ranges()[field][1])
	}
	return e
}

// beyond are numbers that are not from least to most.
func beyond(least, most int64) []int64 {
	return []int64{least - 1, most + 1, least - 1<<41, most + 1<<41, least - 1<<32, most + 1<<32, math.MinInt64, math.MinInt64 + 1, math.MaxInt64 - 1, math.MaxInt64}
}

// presses returns n entries with different numbers.
func presses(n int) []api.Entry {
	var l []api.Entry
	for i := range n {
		l = append(l, press(int64(i), 5, 3, 1))
	}
	return l
}

// wanted is what the definitions of the chapter say of entries that count, in the order of the ledger.
type wanted []api.Entry

// wantedInOrder looks for the next entry again and again.
func wantedInOrder(l []api.Entry) []api.Entry {
	var in []api.Entry
	rest := slices.Clone(l)
	for len(rest) > 0 {
		next := rest[0]
		for _, e := range rest {
			if e.At < next.At || e.At == next.At && e.Number < next.Number {
				next = e
			}
		}
		in = append(in, next)
		rest = slices.DeleteFunc(rest, func(e api.Entry) bool { return e == next })
	}
	return in
}

func counting(l []api.Entry) wanted {
	var w wanted
	for _, e := range wantedInOrder(l) {
		cancelled := slices.ContainsFunc(l, func(c api.Entry) bool { return c.Kind == api.EntryCancel && c.Of == e.Number })
		if e.Kind != api.EntryCancel && !cancelled {
			w = append(w, e)
		}
	}
	return w
}

// entry returns the entry of an order, and whether it has one.
func (w wanted) entry(order int64) (api.Entry, bool) {
	for _, e := range w {
		if e.Kind == api.EntryOrder && e.Order == order {
			return e, true
		}
	}
	return api.Entry{}, false
}

// orders are those that have an entry, in the order of their entries.
func (w wanted) orders() []int64 {
	var l []int64
	for _, e := range w {
		if e.Kind == api.EntryOrder && !slices.Contains(l, e.Order) {
			l = append(l, e.Order)
		}
	}
	return l
}

// many sums Many of the entries of a kind that a function wants.
func (w wanted) many(kind int, of func(e api.Entry) bool) int64 {
	sum := int64(0)
	for _, e := range w {
		if e.Kind == kind && of(e) {
			sum += e.Many
		}
	}
	return sum
}

func (w wanted) shelf(title int) api.Shelf {
	own := func(e api.Entry) bool { return e.Title == title }
	belongs := func(e api.Entry) bool {
		entry, has := w.entry(e.Order)
		return has && entry.Title == title
	}
	return api.Shelf{
		Pressed:  w.many(api.EntryPress, own),
		Sleeves:  w.many(api.EntrySleeves, own),
		Tests:    w.many(api.EntryTest, own),
		Scrapped: w.many(api.EntryScrap, own),
		Shipped:  w.many(api.EntryShip, belongs),
		Back:     w.many(api.EntryReturn, func(e api.Entry) bool { return e.Whole && belongs(e) }),
		Broken:   w.many(api.EntryReturn, func(e api.Entry) bool { return !e.Whole && belongs(e) }),
	}
}

// stock returns the stock, the sleeves left, and what is out.
func (w wanted) stock(title int) [3]int64 {
	s := w.shelf(title)
	return [3]int64{s.Pressed - s.Tests - s.Scrapped - s.Shipped + s.Back, s.Sleeves - s.Shipped + s.Back, s.Shipped - s.Back - s.Broken}
}

// sale is that of an order that has an entry.
func (w wanted) sale(order int64) api.Sale {
	entry, _ := w.entry(order)
	own := func(e api.Entry) bool { return e.Order == order }
	s := api.Sale{Order: order, Title: entry.Title, Asked: entry.Many, Price: entry.Price}
	s.Shipped, s.Returned = w.many(api.EntryShip, own), w.many(api.EntryReturn, own)
	for _, e := range w {
		if e.Kind == api.EntryPay && own(e) {
			s.Paid += e.Price
		}
	}
	return s
}

func (w wanted) sales() []api.Sale {
	orders := w.orders()
	slices.Sort(orders)
	var l []api.Sale
	for _, order := range orders {
		l = append(l, w.sale(order))
	}
	return l
}

func (w wanted) owes(order int64) int64 {
	s := w.sale(order)
	return s.Price*(s.Shipped-s.Returned) - s.Paid
}

// rights divides unlimited numbers, rounded down.
func (w wanted) rights(title int, rate int64) int64 {
	sum := new(big.Int)
	for _, order := range w.orders() {
		if s := w.sale(order); s.Title == title {
			n := new(big.Int).Mul(big.NewInt(s.Price), big.NewInt(s.Shipped-s.Returned))
			sum.Add(sum, n.Div(n.Mul(n, big.NewInt(rate)), big.NewInt(1000)))
		}
	}
	return sum.Int64()
}

// first counts everything anew for each entry.
func (w wanted) first() (int64, int) {
	for i, e := range w {
		if rule := w[:i+1].rule(w[:i], e); rule != 0 {
			return e.Number, rule
		}
	}
	return 0, 0
}

// rule returns the rule that the last entry breaks, after those before it.
func (w wanted) rule(before wanted, e api.Entry) int {
	_, had := before.entry(e.Order)
	is := func(kinds ...int) bool { return slices.Contains(kinds, e.Kind) }
	sale, title := w.sale(e.Order), e.Title
	if is(api.EntryShip) {
		title = sale.Title
	}
	stock := w.stock(title)
	holds := []bool{
		is(api.EntryOrder) && had,
		is(api.EntryShip, api.EntryReturn, api.EntryPay) && !had,
		is(api.EntryShip) && sale.Shipped > sale.Asked,
		is(api.EntryReturn) && sale.Returned > sale.Shipped,
		is(api.EntryShip, api.EntryTest, api.EntryScrap) && stock[0] < 0,
		is(api.EntryShip) && stock[1] < 0,
	}
	return slices.Index(holds, true) + 1
}

// open returns what a sale is open for.
func open(s api.Sale) int64 { return max(s.Asked-s.Shipped, 0) }

func (w wanted) open(title int) int64 {
	sum := int64(0)
	for _, s := range w.sales() {
		if s.Title == title {
			sum += open(s)
		}
	}
	return sum
}

func (w wanted) lacking(title int) [2]int64 {
	s := w.stock(title)
	return [2]int64{max(w.open(title)-s[0], 0), max(w.open(title)-s[1], 0)}
}

// filling gives one disc with one sleeve after the other.
func (w wanted) filling(title int) []api.Fill {
	s := w.stock(title)
	var l []api.Fill
	for _, order := range w.orders() {
		sale := w.sale(order)
		if sale.Title != title {
			continue
		}
		f := api.Fill{Order: order}
		for f.Many < open(sale) && s[0] > 0 && s[1] > 0 {
			f.Many++
			s[0]--
			s[1]--
		}
		if f.Many > 0 {
			l = append(l, f)
		}
	}
	return l
}

// wantedText is the text of a ledger.
func wantedText(l []api.Entry) string {
	text := ""
	for _, e := range wantedInOrder(l) {
		switch e.Kind {
		case api.EntryPress:
			text += fmt.Sprintf("press %d %d %d %d\n", e.Number, e.At, e.Title, e.Many)
		case api.EntrySleeves:
			text += fmt.Sprintf("sleeves %d %d %d %d\n", e.Number, e.At, e.Title, e.Many)
		case api.EntryOrder:
			text += fmt.Sprintf("order %d %d %d %d %d %d\n", e.Number, e.At, e.Order, e.Title, e.Many, e.Price)
		case api.EntryShip:
			text += fmt.Sprintf("ship %d %d %d %d\n", e.Number, e.At, e.Order, e.Many)
		case api.EntryReturn:
			whole := map[bool]string{true: " whole"}[e.Whole]
			text += fmt.Sprintf("return %d %d %d %d%s\n", e.Number, e.At, e.Order, e.Many, whole)
		case api.EntryTest:
			text += fmt.Sprintf("test %d %d %d %d\n", e.Number, e.At, e.Title, e.Many)
		case api.EntryScrap:
			text += fmt.Sprintf("scrap %d %d %d %d\n", e.Number, e.At, e.Title, e.Many)
		case api.EntryPay:
			text += fmt.Sprintf("pay %d %d %d %d\n", e.Number, e.At, e.Order, e.Price)
		case api.EntryCancel:
			text += fmt.Sprintf("cancel %d %d %d\n", e.Number, e.At, e.Of)
		}
	}
	return text
}

// someEntry returns an entry of few titles, orders and times. The number of what it cancels is less than 2 n.
func someEntry(r *rand.Rand, number int64, n int) api.Entry {
	e := api.Entry{Number: number, At: r.Int63n(6), Kind: 1 + r.Intn(9)}
	if r.Intn(3) == 0 {
		e.Kind = api.EntryOrder
	}
	for _, field := range kinds()[e.Kind] {
		most := map[string]int64{"Title": 2, "Order": 3, "Many": 9, "Price": 9, "Of": 2*int64(n) - 1, "Whole": 1}[field]
		e = with(e, field, max(r.Int63n(most+1), ranges()[field][0]))
	}
	return e
}

// someLedger returns n different entries, and some of them again, in any order.
func someLedger(r *rand.Rand, n int) []api.Entry {
	var l []api.Entry
	for _, number := range r.Perm(2 * n)[:n] {
		l = append(l, someEntry(r, int64(number), n))
	}
	return shuffled(r, l)
}

// shuffled returns the same ledger with its entries in any order, and some of them again.
func shuffled(r *rand.Rand, l []api.Entry) []api.Entry {
	m := slices.Clone(l)
	for range r.Intn(4) {
		if len(l) > 0 {
			m = append(m, l[r.Intn(len(l))])
		}
	}
	r.Shuffle(len(m), func(i, j int) { m[i], m[j] = m[j], m[i] })
	return m
}

// goodLedger returns a ledger in which no entry breaks a rule, made of up to n entries.
func goodLedger(r *rand.Rand, n int) []api.Entry {
	var l []api.Entry
	for number := range n {
		e := someEntry(r, int64(number), n)
		e.At = int64(number/3 + r.Intn(3))
		if e.Kind == api.EntryPress || e.Kind == api.EntrySleeves {
			e.Many *= 3
		}
		if _, rule := counting(append(l, e)).first(); rule == 0 {
			l = append(l, e)
		}
	}
	return shuffled(r, l)
}

// titles are those of which ledgers are asked: those of some ledgers, and others.
func titles() []int { return []int{0, 1, 2, 3, api.MaxTitles - 1} }

// rates are those for which rights are asked.
func rates() []int64 { return []int64{0, 1, 7, 333, 500, 999, 1000} }

func shelf(t *testing.T, l []api.Entry, title int) api.Shelf {
	t.Helper()
	s, e := order.Shelf(l, title)
	if e != api.OK {
		t.Fatalf("Shelf of %d in %v: %d", title, l, e)
	}
	return s
}

// stock returns the stock, the sleeves left, and what is out.
func stock(t *testing.T, l []api.Entry, title int) [3]int64 {
	t.Helper()
	discs, sleeves, out, e := order.Stock(l, title)
	if e != api.OK {
		t.Fatalf("Stock of %d in %v: %d", title, l, e)
	}
	return [3]int64{discs, sleeves, out}
}

func sales(t *testing.T, l []api.Entry) []api.Sale {
	t.Helper()
	s, e := order.Sales(l)
	if e != api.OK {
		t.Fatalf("Sales in %v: %d", l, e)
	}
	return s
}

func owes(t *testing.T, l []api.Entry, of int64) int64 {
	t.Helper()
	n, e := order.Owes(l, of)
	if e != api.OK {
		t.Fatalf("Owes of %d in %v: %d", of, l, e)
	}
	return n
}

func rights(t *testing.T, l []api.Entry, title int, rate int64) int64 {
	t.Helper()
	n, e := order.Rights(l, title, rate)
	if e != api.OK {
		t.Fatalf("Rights of %d for %d in %v: %d", title, rate, l, e)
	}
	return n
}

// first returns the number of the first entry that breaks a rule, and the rule.
func first(t *testing.T, l []api.Entry) (int64, int) {
	t.Helper()
	number, rule, e := order.First(l)
	if e != api.OK && e != api.ErrRule || (rule == 0) != (e == api.OK) {
		t.Fatalf("First in %v: %d, %d, %d", l, number, rule, e)
	}
	return number, rule
}

// lacking returns the discs and the sleeves that are lacking.
func lacking(t *testing.T, l []api.Entry, title int) [2]int64 {
	t.Helper()
	discs, sleeves, e := order.Lacking(l, title)
	if e != api.OK {
		t.Fatalf("Lacking of %d in %v: %d", title, l, e)
	}
	return [2]int64{discs, sleeves}
}

func filling(t *testing.T, l []api.Entry, title int) []api.Fill {
	t.Helper()
	f, e := order.Filling(l, title)
	if e != api.OK {
		t.Fatalf("Filling of %d in %v: %d", title, l, e)
	}
	return f
}

func inOrder(t *testing.T, l []api.Entry) []api.Entry {
	t.Helper()
	in, e := order.InOrder(l)
	if e != api.OK {
		t.Fatalf("InOrder of %v: %d", l, e)
	}
	return in
}

func merge(t *testing.T, l, m []api.Entry) []api.Entry {
	t.Helper()
	both, e := order.Merge(l, m)
	if e != api.OK {
		t.Fatalf("Merge of %v and %v: %d", l, m, e)
	}
	return both
}

func until(t *testing.T, l []api.Entry, at int64) []api.Entry {
	t.Helper()
	m, e := order.Until(l, at)
	if e != api.OK {
		t.Fatalf("Until %d of %v: %d", at, l, e)
	}
	return m
}

func text(t *testing.T, l []api.Entry) string {
	t.Helper()
	s, e := order.Text(l)
	if e != api.OK {
		t.Fatalf("Text of %v: %d", l, e)
	}
	return s
}

func parse(t *testing.T, s string) []api.Entry {
	t.Helper()
	l, e := order.Parse(s)
	if e != api.OK {
		t.Fatalf("Parse of %q: %d", s, e)
	}
	return l
}
