package rank_test

import (
	"slices"
	"testing"

	"burin/api"
	"burin/rank"
)

// countFor, kindFor, spanFor, ranksFor, chanceFor and depthFor are results of package rank that have no error.
func countFor(t *testing.T, b api.RankBook) int64 {
	t.Helper()
	n, e := rank.Count(b)
	if e != api.OK {
		t.Fatal(b, e)
	}
	return n
}
func kindFor(t *testing.T, b api.RankBook, one, two int) int {
	t.Helper()
	k, e := rank.Kind(b, one, two)
	if e != api.OK {
		t.Fatal(b, one, two, e)
	}
	return k
}
func spanFor(t *testing.T, b api.RankBook, star int) api.Range {
	t.Helper()
	r, e := rank.Span(b, star)
	if e != api.OK {
		t.Fatal(b, star, e)
	}
	return r
}
func ranksFor(t *testing.T, b api.RankBook, star int) []int64 {
	t.Helper()
	l, e := rank.Ranks(b, star)
	if len(l) != b.Stars || e != api.OK {
		t.Fatal(b, star, l, e)
	}
	return l
}
func chanceFor(t *testing.T, b api.RankBook, one, two int) api.Ratio {
	t.Helper()
	r, e := rank.Chance(b, one, two)
	if !isLeast(r) || e != api.OK {
		t.Fatal(b, one, two, r, e)
	}
	return r
}
func depthFor(t *testing.T, b api.RankBook) int {
	t.Helper()
	d, e := rank.Depth(b)
	if e != api.OK {
		t.Fatal(b, e)
	}
	return d
}

// share returns how many of n a fraction is.
func share(t *testing.T, r api.Ratio, n int64) int64 {
	t.Helper()
	if n%r.Den != 0 {
		t.Fatal(r, n)
	}
	return n / r.Den * r.Num
}

func TestP8_8_Either(t *testing.T) {
	circles := 0
	for i, b := range anyBooks(20, 10, 2000) {
		order, e := rank.Order(b)
		circle, err := rank.Circle(b)
		n := countFor(t, b)
		switch {
		case e == api.OK && err == api.ErrNone:
			if rank.CheckOrder(b, order) != api.OK || n == 0 {
				t.Fatal(i, b, order, n)
			}
		case e == api.ErrRule && err == api.OK:
			circles++
			if rank.CheckCircle(b, circle) != api.OK || n != 0 {
				t.Fatal(i, b, circle, n)
			}
		default:
			t.Fatal(i, b, order, e, circle, err)
		}
	}
	if circles < 300 || circles > 1700 {
		t.Error(circles)
	}
}

// TestP8_8_Neither checks that no list is a circle of a book with an order, and none an order of one with a circle.
func TestP8_8_Neither(t *testing.T) {
	for _, b := range anyBooks(21, 4, 30) {
		orders, circles := 0, 0
		for long := 1; long <= 4; long++ {
			for list := range lists(long, 0, b.Stars-1) {
				if rank.CheckOrder(b, list) == api.OK {
					orders++
				}
				if rank.CheckCircle(b, list) == api.OK {
					circles++
				}
			}
		}
		if (orders == 0) == (circles == 0) || int64(orders) != countFor(t, b) {
			t.Fatal(b, orders, circles)
		}
	}
}

func TestP8_9_Spans(t *testing.T) {
	for _, b := range orderedBooks(22, 10, 150) {
		for star := range b.Stars {
			always, fainter := 0, 0
			for other := range b.Stars {
				if other != star && kindFor(t, b, other, star) == api.RankAlways {
					always++
				}
				if other != star && kindFor(t, b, star, other) == api.RankAlways {
					fainter++
				}
			}
			span := spanFor(t, b, star)
			if span.Lo != int64(always) || span.Hi != int64(b.Stars-1-fainter) {
				t.Fatal(b, star, span, always, fainter)
			}
			for r, n := range ranksFor(t, b, star) {
				if (n > 0) != (span.Lo <= int64(r) && int64(r) <= span.Hi) || n < 0 {
					t.Fatal(b, star, span, r, n)
				}
			}
		}
	}
}

func TestP8_10_Sums(t *testing.T) {
	for _, b := range orderedBooks(23, 10, 100) {
		count := countFor(t, b)
		byRank := make([]int64, b.Stars)
		for star := range b.Stars {
			sum := int64(0)
			for r, n := range ranksFor(t, b, star) {
				sum += n
				byRank[r] += n
			}
			if sum != count {
				t.Fatal(b, star, sum, count)
			}
		}
		if slices.ContainsFunc(byRank, func(n int64) bool { return n != count }) {
			t.Fatal(b, byRank, count)
		}
		for one, two := range pairs(b.Stars) {
			c, d := chanceFor(t, b, one, two), chanceFor(t, b, two, one)
			if share(t, c, count)+share(t, d, count) != count || c.Den != d.Den {
				t.Fatal(b, one, two, c, d)
			}
			kind := kindFor(t, b, one, two)
			if (c == api.Ratio{Num: 1, Den: 1}) != (kind == api.RankAlways) || (c == api.Ratio{Num: 0, Den: 1}) != (kind == api.RankNever) {
				t.Fatal(b, one, two, c, kind)
			}
		}
	}
}

func TestP8_11_Even(t *testing.T) {
	for _, b := range orderedBooks(24, 10, 150) {
		for star := range b.Stars {
			l := ranksFor(t, b, star)
			for r := 1; r+1 < len(l); r++ {
				if l[r]*l[r] < l[r-1]*l[r+1] {
					t.Fatal(b, star, l)
				}
			}
		}
	}
}

// TestP8_12_Helped checks that a look that fits makes no chance of the brighter star less, by a third one that is no part of it.
func TestP8_12_Helped(t *testing.T) {
	d := dice(25)
	helped := 0
	for _, b := range orderedBooks(26, 8, 300) {
		if b.Stars < 3 {
			continue
		}
		for range 4 {
			list := d.shuffled(b.Stars)
			one, two, third := list[0], list[1], list[2]
			if kindFor(t, b, one, two) == api.RankNever || len(b.Looks) == 40 {
				continue
			}
			was, is := chanceFor(t, b, one, third), chanceFor(t, with(b, one, two), one, third)
			if is.Num*was.Den < was.Num*is.Den {
				t.Fatal(b, one, two, third, was, is)
			}
			if is != was {
				helped++
			}
		}
	}
	if helped < 100 {
		t.Error(helped)
	}
}

func TestP8_13_Third(t *testing.T) {
	for _, b := range orderedBooks(27, 10, 100) {
		found := countFor(t, b) < 2
		for one, two := range pairs(b.Stars) {
			c := chanceFor(t, b, one, two)
			found = found || 3*c.Num >= c.Den && 3*c.Num <= 2*c.Den
		}
		if !found {
			t.Fatal(b)
		}
	}
}

func TestP8_14_Turned(t *testing.T) {
	for _, b := range orderedBooks(28, 10, 100) {
		back := turned(b)
		if n, m := countFor(t, b), countFor(t, back); n != m {
			t.Fatal(b, n, m)
		}
		for star := range b.Stars {
			l := ranksFor(t, back, star)
			slices.Reverse(l)
			if !slices.Equal(l, ranksFor(t, b, star)) {
				t.Fatal(b, star, l)
			}
		}
		order, _ := rank.Order(b)
		slices.Reverse(order)
		if e := rank.CheckOrder(back, order); e != api.OK {
			t.Fatal(b, order, e)
		}
	}
	for b := range allBooks(4) {
		d, e := rank.Depth(b)
		back, err := rank.Depth(turned(b))
		if d != back || e != err {
			t.Fatal(b, d, e, back, err)
		}
	}
}

// choose returns in how many ways m of n can be chosen.
func choose(n, m int) int64 {
	ways := int64(1)
	for i := range m {
		ways = ways * int64(n-i) / int64(i+1)
	}
	return ways
}

func TestP8_15_Apart(t *testing.T) {
	d := dice(29)
	for range 400 {
		m := d.from(1, 9)
		n := d.from(1, 10-m)
		a, b := d.any(m, d.upTo(m)), d.any(n, d.upTo(n))
		if d.upTo(3) > 0 {
			a, b = d.ordered(m, d.upTo(m)), d.ordered(n, d.upTo(n))
		}
		want := countFor(t, a) * countFor(t, b) * choose(m+n, m)
		if count := countFor(t, beside(a, b)); count != want {
			t.Fatal(a, b, count, want)
		}
	}
}

// checkDeep checks what P8.16 says of a look at two stars, of which each one may be brighter.
func checkDeep(t *testing.T, b api.RankBook, one, two int, next bool) {
	t.Helper()
	d, left, right := depthFor(t, b), depthFor(t, with(b, one, two)), depthFor(t, with(b, two, one))
	if max(left, right) < d-1 || max(left, right) > d || next && max(left, right) != d-1 {
		t.Fatal(b, one, two, d, left, right)
	}
}

func TestP8_16_Deep(t *testing.T) {
	for stars := 1; stars <= 4; stars++ {
		for b := range allBooks(stars) {
			d, e := rank.Depth(b)
			if e != api.OK {
				continue
			}
			if n := countFor(t, b); n > 1<<d || (n == 1) != (d == 0) {
				t.Fatal(b, d, n)
			}
			best, other, err := rank.Next(b)
			if (err == api.OK) != (d > 0) {
				t.Fatal(b, d, err)
			}
			for one, two := range pairs(stars) {
				switch kindFor(t, b, one, two) {
				case api.RankMay:
					checkDeep(t, b, one, two, one == best && two == other)
				case api.RankAlways:
					if again := depthFor(t, with(b, one, two)); again != d {
						t.Fatal(b, one, two, d, again)
					}
				}
			}
		}
	}
}

// TestP8_16_Decided goes on with Next to the only order that is left, whichever order of a book that is.
func TestP8_16_Decided(t *testing.T) {
	for _, b := range orderedBooks(30, 4, 60) {
		if b.Stars > 4 {
			continue
		}
		for _, order := range ordersOf(b) {
			now, looks := b, 0
			for one, two, e := rank.Next(now); e == api.OK; one, two, e = rank.Next(now) {
				if slices.Index(order, one) > slices.Index(order, two) {
					one, two = two, one
				}
				if len(now.Looks) == 40 { // the same look, 40 times
					now = without(now, 0)
				}
				now = with(now, one, two)
				looks++
			}
			if found, e := rank.Order(now); !slices.Equal(found, order) || looks > depthFor(t, b) || e != api.OK {
				t.Fatal(b, order, found, looks, e)
			}
		}
	}
}

// TestOften checks that neither the order of looks nor how often one is there makes a difference.
func TestOften(t *testing.T) {
	d := dice(31)
	for range 300 {
		b := d.any(d.from(2, 5), d.upTo(8))
		c := api.RankBook{Stars: b.Stars}
		for _, i := range d.shuffled(len(b.Looks)) {
			for range d.from(1, 3) {
				c = with(c, b.Looks[i][0], b.Looks[i][1])
			}
		}
		one, two := d.pair(b.Stars)
		a := asked{b, d.shuffled(b.Stars), of(one, two), one, two, one}
		other := a
		other.b = c
		if l, m := told(t, a), told(t, other); !slices.Equal(l, m) {
			t.Fatal(b, c, l, m)
		}
	}
}

// TestImplied checks that a look that follows from others makes no difference.
func TestImplied(t *testing.T) {
	d := dice(32)
	for range 200 {
		b := d.ordered(d.from(3, 7), d.upTo(8))
		for one, two := range pairs(b.Stars) {
			if kindFor(t, b, one, two) == api.RankAlways {
				a := asked{b, d.shuffled(b.Stars), of(0, 1), two, one, d.upTo(b.Stars - 1)}
				other := a
				other.b = with(b, one, two)
				if l, m := told(t, a), told(t, other); !slices.Equal(l, m) {
					t.Fatal(b, one, two, l, m)
				}
			}
		}
	}
}
