package claim

import (
	"cmp"
	"iter"
	"slices"

	"burin/api"
)

// none is what a nation has that has no star, or a star that has no nation.
const none = -1

// pair is a nation and a star. One of both may be none.
type pair struct {
	nation, star int
}

// places are the places that pairs have in lists, of nations or of stars.
type places map[pair]int

// keep deletes the pairs that others do not have.
func (p places) keep(others places) {
	for both := range p {
		if _, has := others[both]; !has {
			delete(p, both)
		}
	}
}

// rather reports whether a pair is rather had than another one, by the list of the nation or of the star that is in both.
func (p places) rather(one, two pair) bool {
	place, can := p[one]
	other, could := p[two]
	return can && (!could || place < other)
}

// marks are marks at nations, or at stars.
type marks [max(api.MaxClaimNations, api.MaxClaimStars)]bool

// hasTwice reports whether a list has a nation, or a star, twice.
func (m *marks) hasTwice(list []int) bool {
	clear(m[:])
	for _, n := range list {
		if n == none {
			continue
		}
		if m[n] {
			return true
		}
		m[n] = true
	}
	return false
}

// court is a book, and the places of the pairs that can be.
type court struct {
	api.ClaimBook
	byNation, byStar places
	marks            marks
}

// courtFor returns the court of a book. There is an error if the book is not valid, or some lists are no matchings.
func courtFor(b api.ClaimBook, matchings ...[]int) (*court, api.Errno) {
	if e := CheckBook(b); e != api.OK {
		return nil, e
	}
	c := &court{ClaimBook: b, byNation: places{}, byStar: places{}}
	for nation, list := range c.Nations {
		for place, star := range list {
			c.byNation[pair{nation, star}] = place
		}
	}
	for star, list := range c.Stars {
		for place, nation := range list {
			c.byStar[pair{nation, star}] = place
		}
	}
	c.byNation.keep(c.byStar)
	c.byStar.keep(c.byNation)
	for _, m := range matchings {
		if e := c.check(m); e != api.OK {
			return nil, e
		}
	}
	return c, api.OK
}

// settledCourt returns the court of a book. There is an error if the book is not valid, or some lists are no settled matchings.
func settledCourt(b api.ClaimBook, matchings ...[]int) (*court, api.Errno) {
	c, e := courtFor(b, matchings...)
	if e != api.OK {
		return nil, e
	}
	if slices.ContainsFunc(matchings, c.isUnsettled) {
		return nil, api.ErrClaim
	}
	return c, api.OK
}

// check reports whether a list is a matching.
func (c *court) check(list []int) api.Errno {
	switch {
	case len(list) != len(c.Nations):
		return api.ErrEqual
	case !within(none, len(c.Stars)-1, list...):
		return api.ErrRange
	case !c.arePairs(list):
		return api.ErrRule
	case c.marks.hasTwice(list):
		return api.ErrHave
	}
	return api.OK
}

// arePairs reports whether each nation that has a star can be a pair with it.
func (c *court) arePairs(list []int) bool {
	for nation, star := range list {
		if _, can := c.byNation[pair{nation, star}]; star != none && !can {
			return false
		}
	}
	return true
}

// holdersIn returns how many nations have a star in a matching.
func holdersIn(matching []int) int {
	many := 0
	for _, star := range matching {
		if star != none {
			many++
		}
	}
	return many
}

// pairs yields the pairs that can be, in lexicographic order.
func (c *court) pairs() iter.Seq[pair] {
	return func(yield func(pair) bool) {
		for nation := range c.Nations {
			for star := range c.Stars {
				both := pair{nation, star}
				if _, can := c.byNation[both]; can && !yield(both) {
					return
				}
			}
		}
	}
}

// unsettling returns the first pair that unsettles a matching, and whether there is one.
func (c *court) unsettling(matching []int) (pair, bool) {
search:
	for both := range c.pairs() {
		if !c.byNation.rather(both, pair{both.nation, matching[both.nation]}) {
			continue
		}
		for nation, star := range matching {
			if star == both.star && c.byStar.rather(pair{nation, star}, both) {
				continue search
			}
		}
		return both, true
	}
	return pair{}, false
}

// isUnsettled reports whether a pair unsettles a matching.
func (c *court) isUnsettled(matching []int) bool {
	_, unsettled := c.unsettling(matching)
	return unsettled
}

// putTogether returns a list that has, for each nation, the star of one of two matchings that is rather had.
func putTogether(m, n []int, rather func(one, two pair) bool) []int {
	out := taken(m)
	for nation, star := range n {
		out[nation] = better(pair{nation, out[nation]}, pair{nation, star}, rather).star
	}
	return out
}

// better returns the one of two that is rather had.
func better[T any](one, two T, rather func(one, two T) bool) T {
	if rather(two, one) {
		return two
	}
	return one
}

// taken returns a copy of a list, in new memory.
func taken(list []int) []int {
	out := make([]int, len(list))
	copy(out, list)
	return out
}

// allWithin reports whether all numbers of all lists are from least to greatest.
func allWithin[T cmp.Ordered](least, greatest T, lists [][]T) bool {
	for _, list := range lists {
		if !within(least, greatest, list...) {
			return false
		}
	}
	return true
}

// within reports whether all numbers are from least to greatest.
func within[T cmp.Ordered](least, greatest T, numbers ...T) bool {
	for _, n := range numbers {
		if n < least || n > greatest {
			return false
		}
	}
	return true
}
