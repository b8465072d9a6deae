package rank

import (
	"cmp"
	"iter"
	"math/bits"

	"burin/api"
)

// group is some of the stars, a bit for each.
type group uint16

func (g group) has(star int) bool       { return g>>star&1 == 1 }
func (g group) with(star int) group     { return g | 1<<star }
func (g group) size() int               { return bits.OnesCount16(uint16(g)) }
func (g group) isWithin(all group) bool { return g&^all == 0 }

// table is, for each star, those that are brighter.
type table [api.MaxRankStars]group

// seen returns a table with one more look.
func (t table) seen(one, two int) table {
	t[two] = t[two].with(one)
	return t
}

// settled returns a table with all that follows: what is brighter than a brighter star is brighter, too.
func (t table) settled() table {
	for {
		before := t
		for star := range t {
			for other := range t {
				if t[star].has(other) {
					t[star] |= t[other]
				}
			}
		}
		if t == before {
			return t
		}
	}
}

// sky is the stars of a book.
type sky struct {
	api.RankBook
	looked   table // by looks alone
	brighter table // settled: in each order, if there is one
	marks    [api.MaxRankStars]bool
}

// skyFor returns the sky of a book, or the error of the book.
func skyFor(b api.RankBook) (*sky, api.Errno) {
	if e := CheckBook(b); e != api.OK {
		return nil, e
	}
	s := &sky{RankBook: b}
	for _, look := range s.Looks {
		s.looked = s.looked.seen(look[0], look[1])
	}
	s.brighter = s.looked.settled()
	return s, api.OK
}

// orderedSky returns the sky of a book. There is an error if numbers are not different stars of it, or there is no order.
func orderedSky(b api.RankBook, numbers ...int) (*sky, api.Errno) {
	s, e := skyFor(b)
	if e != api.OK {
		return nil, e
	}
	if !s.areDifferent(numbers...) {
		return nil, api.ErrArg
	}
	if !s.hasOrder() {
		return nil, api.ErrRule
	}
	return s, api.OK
}

// stars yields all stars.
func (s *sky) stars() iter.Seq[int] {
	return func(yield func(int) bool) {
		for star := range s.Stars {
			if !yield(star) {
				return
			}
		}
	}
}

// areDifferent reports whether numbers are stars, none of them twice.
func (s *sky) areDifferent(numbers ...int) bool {
	clear(s.marks[:])
	for _, star := range numbers {
		if !within(0, s.Stars-1, star) || s.marks[star] {
			return false
		}
		s.marks[star] = true
	}
	return true
}

// hasOrder reports whether there is an order, which is whether no star would have to be brighter than itself.
func (s *sky) hasOrder() bool {
	_, circled := first(s.stars(), s.isCircled)
	return !circled
}

// isCircled reports whether a star is on a circle.
func (s *sky) isCircled(star int) bool { return s.brighter[star].has(star) }

// span returns the least and the greatest rank of a star: behind all that are brighter, before all that are fainter.
func (s *sky) span(star int) api.Range {
	fainter := 0
	for other := range s.stars() {
		if s.brighter[other].has(star) {
			fainter++
		}
	}
	return api.Range{Lo: int64(s.brighter[star].size()), Hi: int64(s.Stars - 1 - fainter)}
}

// taken returns a copy of a list, in new memory.
func taken(list []int) []int {
	out := make([]int, len(list))
	copy(out, list)
	return out
}

// first returns the first element that is good, and whether there is one.
func first[T any](all iter.Seq[T], good func(T) bool) (T, bool) {
	for x := range all {
		if good(x) {
			return x, true
		}
	}
	var none T
	return none, false
}

// within reports whether all numbers are from least to greatest.
func within[T cmp.Ordered](least, greatest T, numbers ...T) bool {
	for _, n := range numbers {
		if n < least || n > greatest {
			return false
		}
	}
	return true
}
