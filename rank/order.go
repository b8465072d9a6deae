package rank

import (
	"iter"
	"slices"

	"burin/api"
)

// beginning is how an order begins: how many stars it has so far, and which ones. How it can be ended depends on no more.
type beginning struct {
	long  int
	stars group
}

// with returns a beginning with one more star.
func (b beginning) with(star int) beginning { return beginning{b.long + 1, b.stars.with(star)} }

// step tells whether orders count in which a star comes next behind a beginning.
type step func(b beginning, star int) bool

// always lets all orders count.
func always(beginning, int) bool { return true }

// ranked lets those count in which a star has a rank.
func ranked(star, rank int) step {
	return func(b beginning, next int) bool { return (next == star) == (b.long == rank) }
}

// behind lets those count in which the star two comes behind the star one.
func behind(one, two int) step {
	return func(b beginning, next int) bool { return next != two || b.stars.has(one) }
}

// next yields the stars that may come next behind a beginning.
func (s *sky) next(b beginning) iter.Seq[int] {
	return func(yield func(int) bool) {
		for star := range s.Stars {
			if !b.stars.has(star) && s.brighter[star].isWithin(b.stars) && !yield(star) {
				return
			}
		}
	}
}

// order returns the first order, if there is one: the least star that may come next always does.
func (s *sky) order() []int {
	var room [api.MaxRankStars]int
	order := room[:0:s.Stars]
	var b beginning
	for b.long < s.Stars {
		star, _ := first(s.next(b), func(int) bool { return true })
		order = append(order, star)
		b = b.with(star)
	}
	return taken(order)
}

// isOrder reports whether a list of all stars is an order.
func (s *sky) isOrder(list []int) bool {
	var b beginning
	for _, star := range list {
		if !s.brighter[star].isWithin(b.stars) {
			return false
		}
		b = b.with(star)
	}
	return true
}

// beginnings returns the beginnings of orders that count so far, each before those that are longer.
func (s *sky) beginnings(counts step) []beginning {
	list := []beginning{{}}
	met := map[beginning]bool{}
	for i := 0; i < len(list); i++ {
		b := list[i]
		for star := range s.next(b) {
			longer := b.with(star)
			if counts(b, star) && !met[longer] {
				met[longer] = true
				list = append(list, longer)
			}
		}
	}
	return list
}

// count returns how many orders count.
func (s *sky) count(counts step) int64 {
	ways := map[beginning]int64{} // to end each beginning
	for _, b := range slices.Backward(s.beginnings(counts)) {
		if b.long == s.Stars {
			ways[b] = 1
		}
		for star := range s.next(b) {
			if counts(b, star) {
				ways[b] += ways[b.with(star)]
			}
		}
		if ways[b] == 0 {
			delete(ways, b)
		}
	}
	return ways[beginning{}]
}

// ratio returns a number by another one above 0, in least terms.
func ratio(num, den int64) api.Ratio {
	a, b := den, num
	for b != 0 {
		a, b = b, a%b
	}
	return api.Ratio{Num: num / a, Den: den / a}
}
