package drift

import (
	"iter"

	"burin/api"
)

// A bound, and an end of an entry, has a side.
const (
	lower = 0
	upper = 1
)

// alone stands for both entries where the star alone bounds the rate.
const alone = -1

// ends are the least and the greatest number of an entry, by side.
type ends [2]int64

// pair is two entries that bound the rate, or the star alone.
type pair struct {
	early, late int
}

// sides are a lower and an upper bound.
type sides [2]api.Ratio

// card is a star with the bounds of its rate that count.
type card struct {
	api.DriftStar
	bounds map[pair]sides
}

func sideOf(high bool) int {
	if high {
		return upper
	}
	return lower
}

// every means all entries.
func every(int) bool { return true }

// newCard returns the card of a star of which only some entries are meant.
func newCard(s api.DriftStar, meant func(int) bool) card {
	c := card{DriftStar: s, bounds: map[pair]sides{}}
	for p := range pairs(len(s.Entries), meant) {
		c.bounds[p] = boundsBy(s, p)
	}
	c.prune()
	return c
}

// agreed returns the card of a star, and ErrStar if no motion agrees with it.
func agreed(s api.DriftStar) (card, api.Errno) {
	if e := CheckStar(s); e != api.OK {
		return card{}, e
	}
	c := newCard(s, every)
	if c.span().clash() {
		return card{}, api.ErrStar
	}
	return c, api.OK
}

// pairs yields the star alone, and then the pairs of entries that are meant, in lexicographic order.
func pairs(n int, meant func(int) bool) iter.Seq[pair] {
	return func(yield func(pair) bool) {
		if !yield(pair{alone, alone}) {
			return
		}
		for early := range n {
			if !meant(early) {
				continue
			}
			for late := early + 1; late < n; late++ {
				if meant(late) && !yield(pair{early, late}) {
					return
				}
			}
		}
	}
}

// endsOf returns the ends of an entry.
func endsOf(s api.DriftStar, entry int) ends {
	at := s.Entries[entry].At
	return ends{at.Lo, at.Hi}
}

// boundsBy returns the bounds of the rate by a pair.
func boundsBy(s api.DriftStar, p pair) sides {
	if p == (pair{alone, alone}) {
		return sides{whole(s.Rate.Lo), whole(s.Rate.Hi)}
	}
	years := s.Entries[p.late].Year - s.Entries[p.early].Year
	early, late := endsOf(s, p.early), endsOf(s, p.late)
	high := fraction(late[upper]-early[lower], years)
	if early == late { // a star that may stand still drifts as far one way as the other
		return sides{api.Ratio{Num: -high.Num, Den: high.Den}, high}
	}
	return sides{fraction(late[lower]-early[upper], years), high}
}

// tighter reports whether a is a tighter bound than b.
func tighter(side int, a, b api.Ratio) bool {
	if side == upper {
		return compare(a, b) < 0
	}
	return compare(a, b) > 0
}

// prune deletes the bounds that do not count, as the star alone is as tight on both sides:
// whichever entries are left out, its bounds stay, so that a search need not look at the others.
func (c card) prune() {
	star := c.bounds[pair{alone, alone}]
search:
	for p := range pairs(len(c.Entries), every) {
		b, ok := c.bounds[p]
		if !ok || p.early == alone {
			continue
		}
		for side := range b {
			if tighter(side, b[side], star[side]) {
				continue search
			}
		}
		delete(c.bounds, p)
	}
}

// counted yields the pairs whose bounds count, in the order of pairs, as a map has none.
func (c card) counted() iter.Seq[pair] {
	return func(yield func(pair) bool) {
		for p := range pairs(len(c.Entries), every) {
			if _, ok := c.bounds[p]; ok && !yield(p) {
				return
			}
		}
	}
}

// tightest returns the pair that bounds the rate most tightly.
func (c card) tightest(side int) pair {
	return best(c.counted(), func(p, q pair) bool {
		return tighter(side, c.bounds[p][side], c.bounds[q][side])
	})
}

// span returns the tightest bounds of the rate.
func (c card) span() sides {
	var out sides
	for side := range out {
		out[side] = c.bounds[c.tightest(side)][side]
	}
	return out
}

// clash reports whether the lower bound is above the upper one.
func (b sides) clash() bool {
	return compare(b[lower], b[upper]) > 0
}

// best returns the first element than which no other one is better.
func best[T any](all iter.Seq[T], better func(a, b T) bool) T {
	var found T
	none := true
	for x := range all {
		if none || better(x, found) {
			found, none = x, false
		}
	}
	return found
}
