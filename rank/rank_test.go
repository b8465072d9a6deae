package rank_test

import (
	"slices"
	"testing"

	"burin/api"
	"burin/rank"
)

// asked is what functions are asked.
type asked struct {
	b              api.RankBook
	order, circle  []int
	one, two, star int
}

// right is something with an order, rightCircle something with a circle: no function has another error than usual says.
func right() asked       { return asked{bookB(), of(0, 1, 2, 3), of(1, 2), 0, 1, 0} }
func rightCircle() asked { return asked{bookX(), of(0, 1, 2, 3), of(1, 2), 0, 1, 0} }

// The indexes of the errors that answers returns.
const (
	forCheckBook = iota
	forCheckOrder
	forOrder
	forCheckCircle
	forCircle
	forCount
	forKind
	forSpan
	forRanks
	forChance
	forDepth
	forNext
	functions
)

// withStars are the functions with two stars, or one, withOrder those that need an order.
func withTwo() []int   { return of(forKind, forChance) }
func withOne() []int   { return of(forSpan, forRanks) }
func withOrder() []int { return of(forOrder, forKind, forSpan, forRanks, forChance, forDepth, forNext) }

// usual is the error that a function has for what is right, if there is an order, or is none.
func usual(function int, ordered bool) api.Errno {
	switch {
	case !ordered && (function == forCheckOrder || slices.Contains(withOrder(), function)):
		return api.ErrRule
	case ordered && function == forCheckCircle:
		return api.ErrSum
	case ordered && function == forCircle:
		return api.ErrNone
	}
	return api.OK
}

// answers calls each function, and returns the errors. It reports other results that are not zero, together with an error.
func answers(t *testing.T, a asked) [functions]api.Errno {
	t.Helper()
	var e [functions]api.Errno
	var zero [functions]bool
	e[forCheckBook], zero[forCheckBook] = rank.CheckBook(a.b), true
	e[forCheckOrder], zero[forCheckOrder] = rank.CheckOrder(a.b, a.order), true
	e[forCheckCircle], zero[forCheckCircle] = rank.CheckCircle(a.b, a.circle), true
	list, err := rank.Order(a.b)
	e[forOrder], zero[forOrder] = err, len(list) == 0
	list, err = rank.Circle(a.b)
	e[forCircle], zero[forCircle] = err, len(list) == 0
	n, err := rank.Count(a.b)
	e[forCount], zero[forCount] = err, n == 0
	kind, err := rank.Kind(a.b, a.one, a.two)
	e[forKind], zero[forKind] = err, kind == 0
	span, err := rank.Span(a.b, a.star)
	e[forSpan], zero[forSpan] = err, span == api.Range{}
	ranks, err := rank.Ranks(a.b, a.star)
	e[forRanks], zero[forRanks] = err, len(ranks) == 0
	chance, err := rank.Chance(a.b, a.one, a.two)
	e[forChance], zero[forChance] = err, chance == api.Ratio{}
	depth, err := rank.Depth(a.b)
	e[forDepth], zero[forDepth] = err, depth == 0
	one, two, err := rank.Next(a.b)
	e[forNext], zero[forNext] = err, one == 0 && two == 0
	for i := range e {
		if e[i] != api.OK && !zero[i] {
			t.Error("a result with an error:", i, e[i], a)
		}
	}
	return e
}

// expect checks that functions return an error, and all others those of what is right, with an order, or without.
func expect(t *testing.T, a asked, ordered bool, errno api.Errno, which ...int) {
	t.Helper()
	for i, e := range answers(t, a) {
		want := usual(i, ordered)
		if slices.Contains(which, i) {
			want = errno
		}
		if e != want {
			t.Error("function", i, e, "not", want, a)
		}
	}
}

func TestRight(t *testing.T) {
	expect(t, right(), true, api.OK)
	expect(t, rightCircle(), false, api.OK)
}

// wrong is a book that is not valid, with its error.
type wrong struct {
	why string
	b   api.RankBook
	e   api.Errno
}

func wrongBooks() []wrong {
	return []wrong{
		{"zero", api.RankBook{}, api.ErrMany},
		{"no stars, a look", book(0, 0, 1), api.ErrMany},
		{"stars below 0", book(-1), api.ErrMany},
		{"stars below 0, a look", book(-4, 0, 2), api.ErrMany},
		{"11 stars", book(11), api.ErrMany},
		{"11 stars, a star that is none", book(11, 0, 11), api.ErrMany},
		{"11 stars, the same star", book(11, 0, 0), api.ErrMany},
		{"11 stars, a circle", ring(11), api.ErrMany},
		{"41 looks", often(4, 0, 1, 41), api.ErrMany},
		{"41 looks of 10 stars", often(10, 8, 9, 41), api.ErrMany},
		{"41 looks, stars that are none", often(4, 4, -1, 41), api.ErrMany},
		{"41 looks of one star", often(1, 0, 0, 41), api.ErrMany},
		{"1000 looks", often(3, 0, 1, 1000), api.ErrMany},
		{"the first star is none", book(4, 4, 0), api.ErrArg},
		{"the second star is none", book(4, 0, 4), api.ErrArg},
		{"the first star below 0", book(4, -1, 0), api.ErrArg},
		{"the second star below 0", book(4, 0, -1), api.ErrArg},
		{"both are none", book(4, 4, 5), api.ErrArg},
		{"the same star", book(4, 2, 2), api.ErrArg},
		{"the star 0, and 0", book(4, 0, 0), api.ErrArg},
		{"the only star", book(1, 0, 0), api.ErrArg},
		{"a second star of one", book(1, 0, 1), api.ErrArg},
		{"the last look, one star", with(bookB(), 3, 3), api.ErrArg},
		{"the last look, no star", with(bookB(), 3, 4), api.ErrArg},
		{"in between, behind a circle", book(4, 0, 1, 1, 0, 5, 0, 2, 3), api.ErrArg},
		{"the 40th look", with(often(10, 0, 1, 39), 9, 10), api.ErrArg},
		{"the star 10 of 10", book(10, 10, 0), api.ErrArg},
	}
}

func TestWrongBooks(t *testing.T) {
	for _, w := range wrongBooks() {
		a := right()
		a.b = w.b
		for _, stars := range [][3]int{{0, 1, 0}, {0, 0, 0}, {-1, 9, 20}} { // the error of the book comes first
			a.one, a.two, a.star = stars[0], stars[1], stars[2]
			for i, e := range answers(t, a) {
				if e != w.e {
					t.Error(w.why, i, e, "not", w.e)
				}
			}
		}
		for _, list := range [][]int{nil, of(0), of(0, 1, 2, 3, 4, 5, 6, 7, 8, 9, 10), of(9, 9, -1, 9)} {
			if e := rank.CheckOrder(w.b, list); e != w.e {
				t.Error(w.why, list, e)
			}
			if e := rank.CheckCircle(w.b, list); e != w.e {
				t.Error(w.why, list, e)
			}
		}
	}
}

func TestCheckBook(t *testing.T) {
	for i, b := range []api.RankBook{bookB(), bookX(), book(1), book(10), row(10), ring(10), often(2, 1, 0, 40), often(10, 9, 0, 40), with(often(10, 3, 9, 39), 9, 3)} {
		if e := rank.CheckBook(b); e != api.OK {
			t.Error(i, e)
		}
	}
	for _, x := range extremes {
		for i, c := range []struct {
			b api.RankBook
			e api.Errno
		}{
			{book(x), api.ErrMany}, {book(x, 0, 1), api.ErrMany}, {book(4, x, 0), api.ErrArg}, {book(4, 0, x), api.ErrArg}, {book(10, 0, 1, x, x), api.ErrArg},
		} {
			if e := rank.CheckBook(c.b); e != c.e {
				t.Error(x, i, e)
			}
		}
	}
}

// wantOrder is the error of CheckOrder, by the definitions.
func wantOrder(b api.RankBook, list []int) api.Errno {
	sorted := slices.Sorted(slices.Values(list))
	switch {
	case len(list) != b.Stars:
		return api.ErrEqual
	case sorted[0] < 0 || sorted[b.Stars-1] >= b.Stars || len(slices.Compact(sorted)) < b.Stars:
		return api.ErrArg
	case !isOrder(b, list):
		return api.ErrRule
	}
	return api.OK
}

func TestCheckOrder(t *testing.T) {
	for _, b := range []api.RankBook{bookB(), bookX(), book(4), row(4), ring(3), row(3), book(1), ring(2)} {
		for long := range 6 {
			for list := range lists(long, -1, 4) {
				if e := rank.CheckOrder(b, list); e != wantOrder(b, list) {
					t.Fatal(b, list, e, "not", wantOrder(b, list))
				}
			}
		}
	}
	d := dice(1)
	for range 2000 {
		b := d.ordered(10, d.upTo(12))
		list := d.shuffled(10)
		if e := rank.CheckOrder(b, list); e != wantOrder(b, list) {
			t.Fatal(b, list, e)
		}
		first, _ := rank.Order(b)
		i := d.upTo(8)
		first[i], first[i+1] = first[i+1], first[i]
		if e := rank.CheckOrder(b, first); e != wantOrder(b, first) {
			t.Fatal(b, first, e)
		}
	}
	for _, x := range extremes {
		a := right()
		a.order = of(0, 1, 2, x)
		expect(t, a, true, api.ErrArg, forCheckOrder)
		a.order = of(x, x, x)
		expect(t, a, true, api.ErrEqual, forCheckOrder)
		b := rightCircle()
		b.order = of(x, 1, 2, 0)
		expect(t, b, false, api.ErrArg, forCheckOrder)
	}
}

func TestOrder(t *testing.T) {
	check := func(b api.RankBook) {
		t.Helper()
		list, e := rank.Order(b)
		orders := ordersOf(b)
		if len(orders) == 0 && (len(list) > 0 || e != api.ErrRule) || len(orders) > 0 && (!slices.Equal(list, orders[0]) || e != api.OK) {
			t.Fatal(b, list, e)
		}
	}
	for stars := 1; stars <= 4; stars++ {
		for b := range allBooks(stars) {
			check(b)
		}
	}
	for _, b := range anyBooks(2, 6, 300) {
		check(b)
	}
	list, e := rank.Order(turned(row(10)))
	if !slices.Equal(list, of(9, 8, 7, 6, 5, 4, 3, 2, 1, 0)) || e != api.OK {
		t.Error(list, e)
	}
	list, e = rank.Order(book(10, 9, 0, 5, 1))
	if !slices.Equal(list, of(2, 3, 4, 5, 1, 6, 7, 8, 9, 0)) || e != api.OK {
		t.Error(list, e)
	}
}

// wantCircle is the error of CheckCircle, by the definitions.
func wantCircle(b api.RankBook, list []int) api.Errno {
	none := func(star int) bool { return star < 0 || star >= b.Stars }
	switch {
	case len(list) < 2 || len(list) > 10:
		return api.ErrMany
	case slices.ContainsFunc(list, none):
		return api.ErrArg
	case !isCircle(b, list):
		return api.ErrSum
	}
	return api.OK
}

func TestCheckCircle(t *testing.T) {
	for _, b := range []api.RankBook{bookB(), bookX(), book(1), ring(2), ring(3), ring(4), row(4), book(4, 0, 1, 1, 0, 1, 2, 2, 3, 3, 1)} {
		for long := range 6 {
			for list := range lists(long, -1, 4) {
				if e := rank.CheckCircle(b, list); e != wantCircle(b, list) {
					t.Fatal(b, list, e, "not", wantCircle(b, list))
				}
			}
		}
	}
	for _, c := range []struct {
		list []int
		e    api.Errno
	}{
		{slices.Repeat(of(1, 2), 5), api.OK}, // stars may be there more often
		{slices.Repeat(of(2, 1), 5), api.OK},
		{append(slices.Repeat(of(1, 2), 4), 1), api.ErrSum},
		{append(slices.Repeat(of(1, 2), 5), 1), api.ErrMany},
		{append(slices.Repeat(of(1, 2), 5), 4), api.ErrMany},
		{slices.Repeat(of(1, 2), 6), api.ErrMany},
		{slices.Repeat(of(-1), 11), api.ErrMany},
		{of(9), api.ErrMany},
		{of(0, 3, 4), api.ErrArg},
		{of(1, 1), api.ErrSum},
		{of(1, 3), api.ErrSum},
	} {
		if e := rank.CheckCircle(bookX(), c.list); e != c.e {
			t.Error(c.list, e, "not", c.e)
		}
	}
	if e := rank.CheckCircle(ring(10), of(4, 5, 6, 7, 8, 9, 0, 1, 2, 3)); e != api.OK {
		t.Error(e)
	}
	for _, x := range extremes {
		a := rightCircle()
		a.circle = of(1, 2, x)
		expect(t, a, false, api.ErrArg, forCheckCircle)
		a.circle = of(x)
		expect(t, a, false, api.ErrMany, forCheckCircle)
		a = right()
		a.circle = of(x, 0)
		expect(t, a, true, api.ErrArg, forCheckCircle)
	}
}

// checkCircle checks the circle of a book of which there is no order, or that there is none.
func checkCircle(t *testing.T, b api.RankBook, ordered bool) {
	t.Helper()
	list, e := rank.Circle(b)
	if ordered {
		if e != api.ErrNone || len(list) > 0 {
			t.Fatal(b, list, e)
		}
		return
	}
	if e != api.OK || len(list) < 2 || wantCircle(b, list) != api.OK || rank.CheckCircle(b, list) != api.OK {
		t.Fatal(b, list, e)
	}
}

func TestCircle(t *testing.T) {
	for stars := 1; stars <= 4; stars++ {
		for b := range allBooks(stars) {
			checkCircle(t, b, len(ordersOf(b)) > 0)
		}
	}
	for _, b := range anyBooks(3, 6, 300) {
		checkCircle(t, b, len(ordersOf(b)) > 0)
	}
	d := dice(4)
	for range 1000 { // circles of any length, with looks that lead to them, and away from them
		long := d.from(2, 10)
		b := ring(long)
		b.Stars = 10
		for range d.upTo(30) {
			one, two := d.pair(10)
			b = with(b, one, two)
		}
		name := d.shuffled(10)
		for i, look := range b.Looks {
			b.Looks[i] = [2]int{name[look[0]], name[look[1]]}
		}
		checkCircle(t, b, false)
	}
	for long := 2; long <= 10; long++ {
		checkCircle(t, row(long), true)
		checkCircle(t, ring(long), false)
		checkCircle(t, turned(ring(long)), false)
	}
}

// bookFor checks all that is counted of a book of few stars: Count, Kind, Span, Ranks and Chance.
func bookFor(t *testing.T, b api.RankBook) {
	t.Helper()
	orders := ordersOf(b)
	if n, e := rank.Count(b); n != int64(len(orders)) || e != api.OK {
		t.Fatal(b, n, e, "not", len(orders))
	}
	if len(orders) == 0 {
		a := asked{b, of(), of(), 0, 1, 0}
		e := answers(t, a)
		for _, i := range withOrder() {
			if e[i] != api.ErrRule {
				t.Fatal(b, i, e[i])
			}
		}
		return
	}
	for one, two := range pairs(b.Stars) {
		if k, e := rank.Kind(b, one, two); k != kindOf(orders, one, two) || e != api.OK {
			t.Fatal(b, one, two, k, e)
		}
		n := int64(len(before(orders, one, two)))
		c, e := rank.Chance(b, one, two)
		if c.Num*int64(len(orders)) != n*c.Den || !isLeast(c) || e != api.OK {
			t.Fatal(b, one, two, c, e)
		}
	}
	for star := range b.Stars {
		want := ranksOf(orders, star)
		if l, e := rank.Ranks(b, star); !slices.Equal(l, want) || e != api.OK {
			t.Fatal(b, star, l, e, "not", want)
		}
		some := func(n int64) bool { return n > 0 }
		lo := slices.IndexFunc(want, some)
		slices.Reverse(want)
		hi := b.Stars - 1 - slices.IndexFunc(want, some)
		if r, e := rank.Span(b, star); r != (api.Range{Lo: int64(lo), Hi: int64(hi)}) || e != api.OK {
			t.Fatal(b, star, r, e, "not", lo, hi)
		}
	}
}

// isLeast tells whether a fraction is in least terms.
func isLeast(r api.Ratio) bool {
	if r.Den < 1 || r.Num == 0 && r.Den != 1 {
		return false
	}
	for n := int64(2); n <= r.Num && n <= r.Den; n++ {
		if r.Num%n == 0 && r.Den%n == 0 {
			return false
		}
	}
	return true
}

func TestCounted(t *testing.T) {
	for stars := 1; stars <= 3; stars++ {
		for b := range allBooks(stars) {
			bookFor(t, b)
		}
	}
	for i, b := range slices.Collect(allBooks(4)) {
		if i%5 == 0 {
			bookFor(t, b)
		}
	}
	for _, b := range orderedBooks(5, 6, 150) {
		bookFor(t, b)
	}
	for _, b := range anyBooks(6, 5, 150) {
		bookFor(t, b)
	}
	bookFor(t, book(7, 6, 0, 5, 1, 4, 2, 6, 3))
}

// TestCountGreat checks Count for ten stars, by what is known of some books.
func TestCountGreat(t *testing.T) {
	zigzag := book(10, 0, 1, 2, 1, 2, 3, 4, 3, 4, 5, 6, 5, 6, 7, 8, 7, 8, 9)
	ladder := book(10, 0, 1, 1, 2, 2, 3, 3, 4, 5, 6, 6, 7, 7, 8, 8, 9, 0, 5, 1, 6, 2, 7, 3, 8, 4, 9)
	tree := book(10, 0, 1, 0, 2, 1, 3, 1, 4, 2, 5, 2, 6, 3, 7, 3, 8, 4, 9)
	for i, c := range []struct {
		b api.RankBook
		n int64
	}{
		{book(10), 3628800},
		{row(10), 1},
		{turned(row(10)), 1},
		{ring(10), 0},
		{with(book(10), 9, 0), 1814400},
		{often(10, 4, 5, 40), 1814400},
		{zigzag, 50521},                        // the orders that fall and rise by turns
		{ladder, 42},                           // 10! by the hooks 6 5 4 3 2, 5 4 3 2 1
		{tree, 3628800 / (10 * 6 * 3 * 3 * 2)}, // 10! by how many stars hang on each one
		{beside(row(5), row(5)), 252},
		{beside(row(3), row(7)), 120},
		{beside(ring(2), book(8)), 0},
	} {
		if n, e := rank.Count(c.b); n != c.n || e != api.OK {
			t.Error(i, n, e, "not", c.n)
		}
	}
}

// TestRanksGreat checks Span, Ranks and Chance for ten stars, by what is known of some books.
func TestRanksGreat(t *testing.T) {
	even := slices.Repeat(longs(362880), 10)
	apart := longs(126, 70, 35, 15, 5, 1, 0, 0, 0, 0) // C(9, 4), C(8, 4), and so on
	for i, c := range []struct {
		b    api.RankBook
		star int
		span api.Range
		want []int64
	}{
		{book(10), 0, api.Range{Lo: 0, Hi: 9}, even},
		{book(10), 9, api.Range{Lo: 0, Hi: 9}, even},
		{row(10), 3, api.Range{Lo: 3, Hi: 3}, longs(0, 0, 0, 1, 0, 0, 0, 0, 0, 0)},
		{beside(row(5), row(5)), 0, api.Range{Lo: 0, Hi: 5}, apart},
		{beside(row(5), row(5)), 5, api.Range{Lo: 0, Hi: 5}, apart},
	} {
		if r, e := rank.Span(c.b, c.star); r != c.span || e != api.OK {
			t.Error(i, r, e)
		}
		if l, e := rank.Ranks(c.b, c.star); !slices.Equal(l, c.want) || e != api.OK {
			t.Error(i, l, e)
		}
	}
	if r, e := rank.Chance(beside(row(5), row(5)), 0, 9); r != (api.Ratio{Num: 251, Den: 252}) || e != api.OK {
		t.Error(r, e)
	}
	if r, e := rank.Chance(book(10), 9, 0); r != (api.Ratio{Num: 1, Den: 2}) || e != api.OK {
		t.Error(r, e)
	}
}

// TestStars asks for stars that are none: their error comes behind that of the book, and before that there is no order.
func TestStars(t *testing.T) {
	none := append(of(-1, 4, 5, 10), extremes...)
	for _, x := range none {
		for _, ordered := range []bool{true, false} {
			a := right()
			if !ordered {
				a = rightCircle()
			}
			for _, pair := range [][2]int{{x, 0}, {0, x}, {x, x}} {
				b := a
				b.one, b.two = pair[0], pair[1]
				expect(t, b, ordered, api.ErrArg, withTwo()...)
			}
			a.star = x
			expect(t, a, ordered, api.ErrArg, withOne()...)
		}
	}
	for star := range 4 {
		a := right()
		a.one, a.two, a.star = star, star, star
		expect(t, a, true, api.ErrArg, withTwo()...)
		a.b = bookX()
		expect(t, a, false, api.ErrArg, withTwo()...)
	}
	for star := range 10 { // each of ten is a star
		if _, e := rank.Span(book(10), star); e != api.OK {
			t.Error(star, e)
		}
		if _, e := rank.Ranks(row(10), star); e != api.OK {
			t.Error(star, e)
		}
		if _, e := rank.Kind(book(10), star, 9-star); e != api.OK {
			t.Error(star, e)
		}
	}
}

// TestDepth checks Depth and Next for all books of up to four stars.
func TestDepth(t *testing.T) {
	for stars := 1; stars <= 4; stars++ {
		kept := map[string]int{}
		for b := range allBooks(stars) {
			orders := ordersOf(b)
			d, e := rank.Depth(b)
			one, two, err := rank.Next(b)
			if len(orders) == 0 {
				if d != 0 || one != 0 || two != 0 || e != api.ErrRule || err != api.ErrRule {
					t.Fatal(b, d, e, one, two, err)
				}
				continue
			}
			if d != depthOf(orders, kept) || e != api.OK {
				t.Fatal(b, d, e)
			}
			wantOne, wantTwo := nextOf(orders, kept)
			if one != wantOne || two != wantTwo || (err == api.ErrNone) != (d == 0) || d > 0 && err != api.OK {
				t.Fatal(b, one, two, err, "not", wantOne, wantTwo)
			}
		}
	}
}

// TestMore checks how many stars there may be if looks are planned, and what comes first.
func TestMore(t *testing.T) {
	for i, c := range []struct {
		b           api.RankBook
		depth, next api.Errno
	}{
		{book(4), api.OK, api.OK},
		{row(4), api.OK, api.ErrNone},
		{book(1), api.OK, api.ErrNone},
		{book(5), api.ErrOver, api.ErrOver},
		{row(5), api.ErrOver, api.ErrOver},
		{row(10), api.ErrOver, api.ErrOver},
		{book(10), api.ErrOver, api.ErrOver},
		{ring(5), api.ErrRule, api.ErrRule},
		{beside(book(8), ring(2)), api.ErrRule, api.ErrRule},
		{book(11), api.ErrMany, api.ErrMany},
		{book(5, 0, 5), api.ErrArg, api.ErrArg},
	} {
		if d, e := rank.Depth(c.b); e != c.depth || e != api.OK && d != 0 {
			t.Error(i, d, e)
		}
		if one, two, e := rank.Next(c.b); e != c.next || e != api.OK && (one != 0 || two != 0) {
			t.Error(i, one, two, e)
		}
	}
}
