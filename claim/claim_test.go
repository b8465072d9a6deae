package claim_test

import (
	"slices"
	"testing"

	"burin/api"
	"burin/claim"
)

// asked is what functions are asked.
type asked struct {
	b            api.ClaimBook
	m, n         []int
	nation, star int
}

// right is something with settled matchings, unsettled something with others: no function has another error than usual says.
func right() asked     { return asked{bookB(), of(0, 1, 2), of(1, 2, 0), 1, 2} }
func unsettled() asked { return asked{bookB(), of(0, 2, 1), of(1, 2, 0), 1, 2} }

// The indexes of the errors that answers returns.
const (
	forCheckBook = iota
	forCheckMatching
	forUnsettled
	forFirst
	forLast
	forAll
	forKind
	forBetter
	forWorse
	functions
)

// withM are the functions with a matching, withN those with two.
func withM() []int { return of(forCheckMatching, forUnsettled, forBetter, forWorse) }
func withN() []int { return of(forBetter, forWorse) }

// usual is the error that a function has for what is right, or is unsettled.
func usual(function int, settled bool) api.Errno {
	switch {
	case settled && function == forUnsettled:
		return api.ErrNone
	case !settled && slices.Contains(withN(), function):
		return api.ErrClaim
	}
	return api.OK
}

// answers calls each function, and returns the errors. It reports other results that are not zero, together with an error.
func answers(t *testing.T, a asked) [functions]api.Errno {
	t.Helper()
	var e [functions]api.Errno
	var zero [functions]bool
	e[forCheckBook], zero[forCheckBook] = claim.CheckBook(a.b), true
	many, err := claim.CheckMatching(a.b, a.m)
	e[forCheckMatching], zero[forCheckMatching] = err, many == 0
	nation, star, err := claim.Unsettled(a.b, a.m)
	e[forUnsettled], zero[forUnsettled] = err, nation == 0 && star == 0
	all, err := claim.All(a.b)
	e[forAll], zero[forAll] = err, len(all) == 0
	kind, err := claim.Kind(a.b, a.nation, a.star)
	e[forKind], zero[forKind] = err, kind == 0
	for i, matching := range map[int]func() ([]int, api.Errno){
		forFirst:  func() ([]int, api.Errno) { return claim.First(a.b) },
		forLast:   func() ([]int, api.Errno) { return claim.Last(a.b) },
		forBetter: func() ([]int, api.Errno) { return claim.Better(a.b, a.m, a.n) },
		forWorse:  func() ([]int, api.Errno) { return claim.Worse(a.b, a.m, a.n) },
	} {
		list, err := matching()
		e[i], zero[i] = err, len(list) == 0
	}
	for i := range e {
		if e[i] != api.OK && !zero[i] {
			t.Error("a result with an error:", i, e[i], a)
		}
	}
	return e
}

// expect checks that functions return an error, and all others those of what is right, with settled matchings, or without.
func expect(t *testing.T, a asked, settled bool, errno api.Errno, which ...int) {
	t.Helper()
	for i, e := range answers(t, a) {
		want := usual(i, settled)
		if slices.Contains(which, i) {
			want = errno
		}
		if e != want {
			t.Error("function", i, e, "not", want, a)
		}
	}
}

func TestRight(t *testing.T) {
	expect(t, right(), true, api.OK)
	expect(t, unsettled(), false, api.OK)
}

// wrong is a book that is not valid, with its error.
type wrong struct {
	why string
	b   api.ClaimBook
	e   api.Errno
}

func wrongBooks() []wrong {
	six := bookSix()
	none := make([][]int, 7)
	bad := slices.Repeat(these(of(9, 9)), 7)
	return []wrong{
		{"no nations, no stars", book(nil, nil), api.ErrMany},
		{"no nations", book(nil, six.Stars), api.ErrMany},
		{"no stars", book(six.Nations, nil), api.ErrMany},
		{"no stars, and lists of none", book(none[:1], nil), api.ErrMany},
		{"7 nations", book(none, none[:6]), api.ErrMany},
		{"7 stars", book(none[:6], none), api.ErrMany},
		{"7 nations, numbers that are none, and twice", book(bad, bad[:6]), api.ErrMany},
		{"7 stars, numbers that are none, and twice", book(bad[:6], bad), api.ErrMany},
		{"no nations, a number twice", book(nil, these(of(0, 0))), api.ErrMany},
		{"1000 nations", book(make([][]int, 1000), none[:1]), api.ErrMany},
		{"a star that is none", book(these(of(1)), these(of(0))), api.ErrRange},
		{"a nation that is none", book(these(of(0)), these(of(1))), api.ErrRange},
		{"a star below 0", book(these(of(-1)), these(of(0))), api.ErrRange},
		{"a nation below 0", book(these(of(0)), these(of(-1))), api.ErrRange},
		{"the last star of a list is none", book(these(of(0, 1), of(1, 0, 2)), these(of(0), of(1))), api.ErrRange},
		{"the last nation of the last list is none", book(these(of(0), of(1)), these(of(0), of(1, 0, 2))), api.ErrRange},
		{"a star that would be a nation", book(these(of(0), of(1), of(2)), these(of(0), of(2))), api.ErrRange},
		{"a nation that would be a star", book(these(of(0), of(2)), these(of(0), of(1), of(2))), api.ErrRange},
		{"star 6", book(append(these(of(6)), six.Nations[1:]...), six.Stars), api.ErrRange},
		{"nation 6", book(six.Nations, append(these(of(6)), six.Stars[1:]...)), api.ErrRange},
		{"a star twice, then one that is none", book(these(of(0, 0, 1)), these(of(0))), api.ErrRange},
		{"a star twice, then a nation that is none", book(these(of(0, 0)), these(of(1))), api.ErrRange},
		{"a nation twice, and a star that is none", book(these(of(0), of(1)), these(of(0, 0))), api.ErrRange},
		{"a star twice", book(these(of(0, 0)), these(of(0))), api.ErrHave},
		{"a nation twice", book(these(of(0)), these(of(0, 0))), api.ErrHave},
		{"a star twice, not next to one another", book(these(of(0, 1), of(1, 0, 1)), these(of(0), of(1))), api.ErrHave},
		{"a nation twice, in the last list", book(these(of(0), of(1)), these(nil, nil, of(1, 0, 1))), api.ErrHave},
		{"seven stars, so that one is there twice", book(append(these(of(0, 1, 2, 3, 4, 5, 5)), six.Nations[1:]...), six.Stars), api.ErrHave},
		{"the last star twice", book(these(of(5, 5)), six.Stars[:0:0]), api.ErrMany},
		{"1000 times the same star", book(these(make([]int, 1000)), these(nil)), api.ErrHave},
	}
}

func TestWrongBooks(t *testing.T) {
	for _, w := range wrongBooks() {
		for _, a := range []asked{
			{w.b, make([]int, len(w.b.Nations)), make([]int, len(w.b.Nations)), 0, 0},
			{w.b, slices.Repeat(of(-1), len(w.b.Nations)), slices.Repeat(of(-1), len(w.b.Nations)), 0, 0},
			{w.b, nil, nil, -1, -1}, // the error of the book comes first
			{w.b, of(9, 9, 9, 9, 9, 9, 9), of(0), 99, 99},
		} {
			for i, e := range answers(t, a) {
				if e != w.e {
					t.Error(w.why, i, e, "not", w.e)
				}
			}
		}
	}
}

func TestCheckBook(t *testing.T) {
	six := bookSix()
	for i, b := range []api.ClaimBook{
		bookB(), bookC(), bookTen(), six, book(these(nil), these(nil)), book(these(of()), these(of(0))), book(these(of(0)), these(nil)),
		book(make([][]int, 6), make([][]int, 6)), book(six.Nations[:1], make([][]int, 6)), book(make([][]int, 6), six.Stars[:1]),
		book(these(of(5)), make([][]int, 6)), book(make([][]int, 6), these(of(5, 0))), book(these(of(0), of(0), of(0)), these(of(2, 1))),
	} {
		if e := claim.CheckBook(b); e != api.OK {
			t.Error(i, e)
		}
	}
	for _, x := range extremes {
		for i, b := range []api.ClaimBook{
			withNation(six, 3, of(x)), withStar(six, 5, of(0, x)), withNation(six, 0, of(x, x)), withStar(withNation(six, 0, of(1, 1)), 5, of(2, 3, x)),
		} {
			if e := claim.CheckBook(b); e != api.ErrRange {
				t.Error(x, i, e)
			}
		}
	}
}

// checkMatching checks CheckMatching and Unsettled for a list.
func checkMatching(t *testing.T, b api.ClaimBook, list []int) {
	t.Helper()
	want, errno := checkOf(b, list)
	if n, e := claim.CheckMatching(b, list); n != want || e != errno {
		t.Fatal(b, list, n, e, "not", want, errno)
	}
	nation, star, found := 0, 0, false
	if errno == api.OK {
		nation, star, found = unsettlingOf(b, list)
		if !found {
			errno = api.ErrNone
		}
	}
	if n, s, e := claim.Unsettled(b, list); n != nation || s != star || e != errno {
		t.Fatal(b, list, n, s, e, "not", nation, star, errno)
	}
}

func TestCheckMatching(t *testing.T) {
	for b := range allBooks(2, 2) {
		for long := range 4 {
			for list := range lists(long, -2, 2) {
				checkMatching(t, b, list)
			}
		}
	}
	for _, b := range anyBooks(1, 4, 40) {
		for list := range lists(len(b.Nations), -2, len(b.Stars)) {
			checkMatching(t, b, list)
		}
	}
	for _, b := range append(anyBooks(2, 6, 40), bookSix()) {
		all := matchingsOf(b)
		for i := 0; i < len(all); i += 1 + len(all)/300 {
			checkMatching(t, b, all[i])
		}
	}
}

func TestMatchingErrors(t *testing.T) {
	for i, c := range []struct {
		b    api.ClaimBook
		list []int
		e    api.Errno
	}{
		{bookC(), nil, api.ErrEqual}, {bookC(), of(0), api.ErrEqual}, {bookC(), of(0, -1, -1), api.ErrEqual}, {bookC(), of(9), api.ErrEqual},
		{bookC(), of(-2, 1, 1), api.ErrEqual}, {bookC(), make([]int, 1000), api.ErrEqual}, {bookB(), of(0, 1), api.ErrEqual},
		{bookC(), of(0, 2), api.ErrRange}, {bookC(), of(-2, 0), api.ErrRange}, {bookC(), of(1, -2), api.ErrRange},
		{bookC(), of(2, 1), api.ErrRange}, // the nation 1 and the star 1 cannot be a pair, but that comes later
		{bookC(), of(-1, 2), api.ErrRange}, {bookB(), of(0, 0, 3), api.ErrRange},
		{bookC(), of(1, 1), api.ErrRule}, // the star is there twice, but that comes later
		{bookC(), of(-1, 1), api.ErrRule}, {bookC(), of(0, 1), api.ErrRule},
		{book(these(of(0), of(0)), these(of(1))), of(0, -1), api.ErrRule}, // only the nation would
		{book(these(nil, of(0)), these(of(0, 1))), of(0, -1), api.ErrRule},
		{book(these(of(0), of(0), nil), these(of(0, 1))), of(0, 0, 0), api.ErrRule},
		{bookC(), of(0, 0), api.ErrHave}, {bookB(), of(0, 1, 0), api.ErrHave}, {bookB(), of(-1, 2, 2), api.ErrHave}, {bookB(), of(1, 1, 1), api.ErrHave},
	} {
		a := asked{c.b, c.list, nil, 0, 0}
		for k, e := range answers(t, a) {
			if slices.Contains(withM(), k) && e != c.e || !slices.Contains(withM(), k) && e != api.OK {
				t.Error(i, k, e)
			}
		}
	}
	for _, x := range extremes {
		for i := range 3 {
			list := of(0, 0, 0)
			list[i] = x
			a := right()
			a.m = list
			expect(t, a, true, api.ErrRange, withM()...)
			a = right()
			a.n = list
			expect(t, a, true, api.ErrRange, withN()...)
		}
	}
}

// TestUnsettled checks that a pair unsettles only if both would rather have one another.
func TestUnsettled(t *testing.T) {
	for i, c := range []struct {
		b            api.ClaimBook
		m            []int
		nation, star int
		e            api.Errno
	}{
		{bookC(), of(1, -1), 0, 0, api.OK}, {bookC(), of(-1, 0), 0, 0, api.OK}, {bookB(), of(1, 0, 2), 1, 2, api.OK}, {bookB(), of(0, -1, -1), 1, 0, api.OK},
		{bookB(), of(2, 1, 0), 0, 1, api.OK}, {bookB(), of(-1, 1, 2), 0, 0, api.OK}, {bookB(), of(0, 1, -1), 2, 0, api.OK},
		{book(these(of(0), of(0)), these(of(1))), of(-1, 0), 0, 0, api.ErrNone},    // the star would not have the nation 0
		{book(these(of(0), nil), these(of(1, 0))), of(0, -1), 0, 0, api.ErrNone},   // the nation 1 would not have the star
		{book(these(of(0), of(0)), these(of(1, 0))), of(0, -1), 1, 0, api.OK},      // both would
		{book(these(of(1, 0)), these(of(0), of(0))), of(0), 0, 1, api.OK},          // the star 1 has none
		{book(these(of(1, 0)), these(of(0), nil)), of(0), 0, 0, api.ErrNone},       // the star 1 would not have the nation
		{book(these(of(2, 1, 0)), these(of(0), nil, nil)), of(-1), 0, 0, api.OK},   // what cannot be is no matter
		{book(these(nil, nil), these(of(0, 1))), of(-1, -1), 0, 0, api.ErrNone},    // no nation would
		{book(these(of(0), of(0)), these(of(0, 1))), of(0, -1), 0, 0, api.ErrNone}, // the star has what it would rather have
	} {
		if nation, star, e := claim.Unsettled(c.b, c.m); nation != c.nation || star != c.star || e != c.e {
			t.Error(i, nation, star, e)
		}
	}
}

// checkBook checks First, Last, All and Kind by all matchings of a book, and returns those that are settled.
func checkBook(t *testing.T, b api.ClaimBook) [][]int {
	t.Helper()
	settled := settledOf(b)
	if list, e := claim.All(b); !slices.EqualFunc(list, settled, slices.Equal) || e != api.OK {
		t.Fatal(b, list, e, "not", settled)
	}
	if m, e := claim.First(b); !slices.Equal(m, bestOf(b, settled)) || e != api.OK {
		t.Fatal(b, m, e, settled)
	}
	if m, e := claim.Last(b); !slices.Equal(m, starsBestOf(b, settled)) || e != api.OK {
		t.Fatal(b, m, e, settled)
	}
	for nation := range b.Nations {
		for star := range b.Stars {
			if k, e := claim.Kind(b, nation, star); k != kindOf(settled, nation, star) || e != api.OK {
				t.Fatal(b, nation, star, k, e, settled)
			}
		}
	}
	return settled
}

func TestSmallBooks(t *testing.T) {
	for b := range allBooks(2, 2) {
		checkBook(t, b)
	}
	for b := range allBooks(3, 1) {
		checkBook(t, b)
		checkBook(t, turned(b))
	}
}

func TestBooks(t *testing.T) {
	counts := map[int]int{}
	for _, b := range anyBooks(3, 4, 600) {
		counts[min(len(checkBook(t, b)), 4)]++
	}
	if counts[1] < 100 || counts[2] < 40 || counts[3] < 20 || counts[4] < 15 { // 4 or more
		t.Error(counts)
	}
	for _, b := range append(anyBooks(4, 6, 60), bookSix(), turned(bookSix())) {
		checkBook(t, b)
	}
}

// TestCounts checks books of which it is known how many settled matchings there are.
func TestCounts(t *testing.T) {
	two := book(these(of(0, 1), of(1, 0)), these(of(1, 0), of(0, 1)))
	for i, c := range []struct {
		b    api.ClaimBook
		many int
	}{
		{bookB(), 3}, {bookC(), 1}, {two, 2}, {beside(two, two), 4}, {beside(two, beside(two, two)), 8}, {bookTen(), 10}, {beside(bookTen(), two), 20},
		{bookSix(), 6}, {beside(bookB(), bookB()), 9}, {book(make([][]int, 6), make([][]int, 6)), 1},
	} {
		if list := checkBook(t, c.b); len(list) != c.many {
			t.Error(i, list)
		}
	}
}

func TestKindErrors(t *testing.T) {
	for _, b := range []api.ClaimBook{bookB(), bookC(), turned(bookC()), book(these(nil), these(nil, nil)), bookSix()} {
		for _, x := range append(of(-1, len(b.Nations)), extremes...) {
			if k, e := claim.Kind(b, x, 0); k != 0 || e != api.ErrArg {
				t.Error(b, x, k, e)
			}
		}
		for _, x := range append(of(-1, len(b.Stars)), extremes...) {
			for _, nation := range of(0, len(b.Nations)-1, x) {
				if k, e := claim.Kind(b, nation, x); k != 0 || e != api.ErrArg {
					t.Error(b, nation, x, k, e)
				}
			}
		}
	}
	a := right()
	a.nation = 3
	expect(t, a, true, api.ErrArg, forKind)
	a = right()
	a.star = 3
	expect(t, a, true, api.ErrArg, forKind)
}

// checkTogether checks Better and Worse of two matchings.
func checkTogether(t *testing.T, b api.ClaimBook, m, n []int) {
	t.Helper()
	wantBetter, wantWorse := togetherOf(b, m, n)
	better, e := claim.Better(b, m, n)
	worse, err := claim.Worse(b, m, n)
	if !slices.Equal(better, wantBetter) || !slices.Equal(worse, wantWorse) || e != api.OK || err != api.OK {
		t.Fatal(b, m, n, better, worse, e, err, "not", wantBetter, wantWorse)
	}
}

func TestTogether(t *testing.T) {
	different := 0
	for _, b := range append(anyBooks(5, 5, 300), beside(bookTen(), book(these(of(0, 1), of(1, 0)), these(of(1, 0), of(0, 1))))) {
		settled := settledOf(b)
		for _, m := range settled {
			for _, n := range settled {
				checkTogether(t, b, m, n)
				if better, _ := togetherOf(b, m, n); !slices.Equal(better, m) && !slices.Equal(better, n) {
					different++
				}
			}
		}
	}
	if different < 30 {
		t.Error(different)
	}
}

func TestTogetherErrors(t *testing.T) {
	for _, c := range []struct {
		m, n []int
		e    api.Errno
	}{
		{of(0, 1, 2), of(0, 2, 1), api.ErrClaim}, {of(0, 2, 1), of(0, 1, 2), api.ErrClaim}, {of(0, 2, 1), of(2, 1, 0), api.ErrClaim},
		{of(-1, -1, -1), of(0, 1, 2), api.ErrClaim}, {of(0, 1, 2), of(-1, -1, -1), api.ErrClaim}, {of(1, 0, 2), of(1, 0, 2), api.ErrClaim},
		{of(0, 1), of(0, 0, 0), api.ErrEqual}, {of(0, 1, 2), of(0, 1), api.ErrEqual}, {of(0, 2, 1), nil, api.ErrEqual}, {nil, nil, api.ErrEqual},
		{of(0, 1, 3), of(0, 1), api.ErrRange}, {of(0, 1, 2), of(-2, 1, 1), api.ErrRange}, {of(0, 2, 1), of(0, 3, 0), api.ErrRange},
		{of(0, 0, 2), of(3, 3, 3), api.ErrHave}, {of(0, 1, 2), of(0, 1, 1), api.ErrHave}, {of(0, 2, 1), of(2, 2, 2), api.ErrHave},
	} {
		better, e := claim.Better(bookB(), c.m, c.n)
		worse, err := claim.Worse(bookB(), c.m, c.n)
		if len(better) > 0 || len(worse) > 0 || e != c.e || err != c.e {
			t.Error(c, better, worse, e, err)
		}
	}
	for _, c := range []struct {
		m, n []int
		e    api.Errno
	}{
		{of(1, 1), of(0), api.ErrRule}, {of(0, -1), of(0, 1), api.ErrRule}, {of(1, 0), of(1, 1), api.ErrRule}, {of(1, 0), of(0, 0), api.ErrHave},
		{of(0, -1), of(1, 0), api.ErrClaim}, {of(1, 0), of(0, -1), api.ErrClaim},
	} {
		if better, e := claim.Better(bookC(), c.m, c.n); len(better) > 0 || e != c.e {
			t.Error(c, better, e)
		}
		if worse, e := claim.Worse(bookC(), c.m, c.n); len(worse) > 0 || e != c.e {
			t.Error(c, worse, e)
		}
	}
}
