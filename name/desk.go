package name

import (
	"iter"
	"slices"

	"burin/api"
)

// pair is two places, the lesser one first, so that there is one pair for both orders.
type pair struct {
	low, high int
}

// marks tells of names, or places, by their numbers, which ones are meant.
type marks []bool

// desk is a sheet with the names that are given, and the pairs of their places that meet.
type desk struct {
	api.NameSheet
	given marks
	meets map[pair]bool
}

func mate(place int) int         { return place ^ 1 }
func nameOf(place int) int       { return place / 2 }
func placeOf(name, side int) int { return 2*name + side }
func pairOf(a, b int) pair       { return pair{min(a, b), max(a, b)} }

// set marks just those of a list.
func (m marks) set(list ...int) {
	clear(m)
	for _, x := range list {
		m[x] = true
	}
}

// deskFor returns the desk of a valid sheet for names of it, or the error of one of both.
func deskFor(s api.NameSheet, names []int) (desk, api.Errno) {
	if e := CheckSheet(s); e != api.OK {
		return desk{}, e
	}
	before := -1
	for _, n := range names {
		if !within(before+1, s.Names-1, n) {
			return desk{}, api.ErrArg
		}
		before = n
	}
	return newDesk(s, names), api.OK
}

// newDesk returns the desk of a valid sheet for names of it.
func newDesk(s api.NameSheet, names []int) desk {
	d := desk{NameSheet: s, given: make(marks, s.Names), meets: map[pair]bool{}}
	d.given.set(names...)
	for _, m := range s.Meets {
		d.meets[pairOf(m[0], m[1])] = true
	}
	for p := range d.meets {
		if !d.has(p.low) || !d.has(p.high) {
			delete(d.meets, p)
		}
	}
	return d
}

// has reports whether a number is a place of a given name.
func (d desk) has(place int) bool {
	return within(0, placeOf(d.Names, 0)-1, place) && d.given[nameOf(place)]
}

// places yields the places of the given names, in increasing order.
func (d desk) places() iter.Seq[int] {
	return func(yield func(int) bool) {
		for place := range placeOf(d.Names, 0) {
			if d.has(place) && !yield(place) {
				return
			}
		}
	}
}

// covers reports whether a place covers a star.
func (d desk) covers(place int) bool { return slices.Contains(d.Covered, place) }

// meet reports whether two places of given names meet.
func (d desk) meet(p, q int) bool { return d.meets[pairOf(p, q)] }

// first returns the first element that is good, and whether there is one.
func first[T any](all iter.Seq[T], good func(T) bool) (T, bool) {
	for x := range all {
		if good(x) {
			return x, true
		}
	}
	var none T
	return none, false
}
