package rank_test

import (
	"iter"
	"math"
	"slices"

	"burin/api"
)

// extremes are numbers of which no one is a star, or how many stars there are.
var extremes = []int{math.MinInt, math.MinInt + 1, -1 << 40, -1 << 32, 1 << 32, 1 << 40, math.MaxInt - 1, math.MaxInt}

// of is a list, longs one of int64, book a book: two stars for each look.
func of(x ...int) []int        { return x }
func longs(x ...int64) []int64 { return x }
func book(stars int, x ...int) api.RankBook {
	b := api.RankBook{Stars: stars}
	for i := 0; i < len(x); i += 2 {
		b.Looks = append(b.Looks, [2]int{x[i], x[i+1]})
	}
	return b
}

// bookB and bookX are the books B and X of the chapter's examples.
func bookB() api.RankBook { return book(4, 0, 2, 1, 2, 1, 3) }
func bookX() api.RankBook { return with(bookB(), 2, 1) }

// with is a book with one more look, without one with a look less.
func with(b api.RankBook, one, two int) api.RankBook {
	b.Looks = append(slices.Clone(b.Looks), [2]int{one, two})
	return b
}
func without(b api.RankBook, i int) api.RankBook {
	b.Looks = slices.Delete(slices.Clone(b.Looks), i, i+1)
	return b
}

// often is a book in which a look is there a number of times.
func often(stars, one, two, times int) api.RankBook {
	return book(stars, slices.Repeat(of(one, two), times)...)
}

// row is a book in which each star is brighter than the next one, ring one in which the last one is brighter than the first
// one, too.
func row(stars int) api.RankBook {
	b := book(stars)
	for i := 1; i < stars; i++ {
		b = with(b, i-1, i)
	}
	return b
}
func ring(stars int) api.RankBook { return with(row(stars), stars-1, 0) }

// turned is a book in which each look is turned round.
func turned(b api.RankBook) api.RankBook {
	out := book(b.Stars)
	for _, look := range b.Looks {
		out = with(out, look[1], look[0])
	}
	return out
}

// beside is two books beside each other.
func beside(a, b api.RankBook) api.RankBook {
	out := a
	out.Stars += b.Stars
	for _, look := range b.Looks {
		out = with(out, look[0]+a.Stars, look[1]+a.Stars)
	}
	return out
}

// dice is a generator of numbers that are the same in each run.
type dice uint64

func (d *dice) upTo(n int) int {
	*d = *d*6364136223846793005 + 1442695040888963407
	return int(uint64(*d)>>33) % (n + 1)
}

func (d *dice) from(a, b int) int { return a + d.upTo(b-a) }

// shuffled throws a list of all stars.
func (d *dice) shuffled(stars int) []int {
	var list []int
	for i := range stars {
		list = slices.Insert(list, d.upTo(i), i)
	}
	return list
}

// pair throws two different stars.
func (d *dice) pair(stars int) (int, int) {
	one := d.upTo(stars - 1)
	two := d.upTo(stars - 2)
	if two >= one {
		two++
	}
	return one, two
}

// ordered throws a book of which there is an order.
func (d *dice) ordered(stars, looks int) api.RankBook {
	b := book(stars)
	order := d.shuffled(stars)
	for range looks {
		if stars < 2 {
			break
		}
		one, two := d.pair(stars)
		b = with(b, order[min(one, two)], order[max(one, two)])
	}
	return b
}

// any throws a book of which there may be an order, or not.
func (d *dice) any(stars, looks int) api.RankBook {
	b := d.ordered(stars, looks)
	for range d.from(1, 2) {
		if stars < 2 || len(b.Looks) >= api.MaxRankLooks {
			break
		}
		one, two := d.pair(stars)
		b = with(b, one, two)
	}
	return b
}

// orderedBooks throws a number of books of which there are orders, and adds that of the examples, and a few others.
func orderedBooks(seed dice, stars, n int) []api.RankBook {
	out := []api.RankBook{bookB(), book(1), book(2), book(4), row(stars), turned(row(stars)), often(stars, stars-1, 0, 40)}
	for range n {
		out = append(out, seed.ordered(seed.from(1, stars), seed.upTo(2*stars)))
	}
	return out
}

// anyBooks throws a number of any books, and adds those of the examples, and a few others.
func anyBooks(seed dice, stars, n int) []api.RankBook {
	out := []api.RankBook{bookB(), bookX(), book(1), row(stars), ring(stars), turned(ring(stars)), ring(2)}
	for range n {
		out = append(out, seed.any(seed.from(1, stars), seed.upTo(2*stars)))
	}
	return out
}

// allBooks yields all books of so many stars in which no look is there twice.
func allBooks(stars int) iter.Seq[api.RankBook] {
	var pairs []int
	for one := range stars {
		for two := range stars {
			if one != two {
				pairs = append(pairs, one, two)
			}
		}
	}
	return func(yield func(api.RankBook) bool) {
		for set := range 1 << (len(pairs) / 2) {
			b := book(stars)
			for i := range len(pairs) / 2 {
				if set>>i&1 == 1 {
					b = with(b, pairs[2*i], pairs[2*i+1])
				}
			}
			if !yield(b) {
				return
			}
		}
	}
}

// lists yields all lists of so many numbers from least to greatest.
func lists(long, least, greatest int) iter.Seq[[]int] {
	return func(yield func([]int) bool) {
		list := slices.Repeat(of(least), long)
		for {
			if !yield(slices.Clone(list)) {
				return
			}
			i := 0
			for i < long && list[i] == greatest {
				list[i] = least
				i++
			}
			if i == long {
				return
			}
			list[i]++
		}
	}
}

// pairs yields all pairs of different stars.
func pairs(stars int) iter.Seq2[int, int] {
	return func(yield func(int, int) bool) {
		for one := range stars {
			for two := range stars {
				if one != two && !yield(one, two) {
					return
				}
			}
		}
	}
}

// isLook and all that follows are the chapter's definitions.
// They are there to check what package rank finds.

// isLook tells whether two stars are a look.
func isLook(b api.RankBook, one, two int) bool { return slices.Contains(b.Looks, [2]int{one, two}) }

// isOrder tells whether a list of all stars, each once, is an order.
func isOrder(b api.RankBook, list []int) bool {
	for _, look := range b.Looks {
		if slices.Index(list, look[0]) > slices.Index(list, look[1]) {
			return false
		}
	}
	return true
}

// isCircle tells whether a list of stars is a circle.
func isCircle(b api.RankBook, list []int) bool {
	for i := range list {
		if !isLook(b, list[i], list[(i+1)%len(list)]) {
			return false
		}
	}
	return true
}

// all returns all lists of all stars, each once, in lexicographic order.
func all(stars int) [][]int {
	out := [][]int{{}}
	for range stars {
		var longer [][]int
		for _, list := range out {
			for star := range stars {
				if !slices.Contains(list, star) {
					longer = append(longer, append(slices.Clone(list), star))
				}
			}
		}
		out = longer
	}
	return out
}

// ordersOf returns all orders of a book, in lexicographic order; it is there for books of few stars.
func ordersOf(b api.RankBook) [][]int {
	return slices.DeleteFunc(all(b.Stars), func(list []int) bool { return !isOrder(b, list) })
}

// ranksOf returns in how many of all orders a star has each rank.
func ranksOf(orders [][]int, star int) []int64 {
	out := make([]int64, len(orders[0]))
	for _, order := range orders {
		out[slices.Index(order, star)]++
	}
	return out
}

// before returns those orders in which a star is brighter than another one.
func before(orders [][]int, one, two int) [][]int {
	return slices.DeleteFunc(slices.Clone(orders), func(order []int) bool { return slices.Index(order, one) > slices.Index(order, two) })
}

// kindOf returns whether a star is brighter than another one, by all orders.
func kindOf(orders [][]int, one, two int) int {
	switch len(before(orders, one, two)) {
	case 0:
		return api.RankNever
	case len(orders):
		return api.RankAlways
	}
	return api.RankMay
}

// depthOf returns how many looks decide, of orders of four stars. It keeps what it has found: a depth for each answer to all
// of its questions, which is a text of them.
func depthOf(orders [][]int, kept map[string]int) int {
	if len(orders) <= 1 {
		return 0
	}
	name := nameOf(orders)
	if depth, known := kept[name]; known {
		return depth
	}
	depth := math.MaxInt
	for one, two := range pairs(len(orders[0])) {
		if depthBy(orders, one, two) {
			depth = min(depth, looksOf(orders, one, two, kept))
		}
	}
	kept[name] = depth
	return depth
}

// depthBy tells whether some orders have one answer, and some the other one. (If all have the same, the look is no help.)
func depthBy(orders [][]int, one, two int) bool { return kindOf(orders, one, two) == api.RankMay }

// looksOf returns how many looks decide if two stars are looked at first.
func looksOf(orders [][]int, one, two int, kept map[string]int) int {
	return 1 + max(depthOf(before(orders, one, two), kept), depthOf(before(orders, two, one), kept))
}

// nameOf returns a text that is another one for other orders.
func nameOf(orders [][]int) string {
	var name []byte
	for _, order := range orders {
		for _, star := range order {
			name = append(name, byte('0'+star))
		}
		name = append(name, ' ')
	}
	return string(name)
}

// nextOf returns the first two stars with which as many looks as the depth says are enough.
func nextOf(orders [][]int, kept map[string]int) (int, int) {
	for one, two := range pairs(len(orders[0])) {
		if one < two && depthBy(orders, one, two) && looksOf(orders, one, two, kept) == depthOf(orders, kept) {
			return one, two
		}
	}
	return 0, 0
}
