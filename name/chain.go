package name

import (
	"iter"
	"slices"

	"burin/api"
)

// reach is which places are reached.
type reach [2 * api.MaxNameNames]bool

// walk looks for chains at a desk.
type walk struct {
	desk
	seen marks
}

// leads reports whether a step leads from one place of the given names to another one.
func (d desk) leads(from, to int) bool {
	return to == mate(from) && d.covers(from) || d.meet(from, mate(to))
}

// steps yields the places to which a step leads from one of a given name, in increasing order.
// They are of given names, too, as no other pairs are left at the desk.
func (d desk) steps(from int) iter.Seq[int] {
	return func(yield func(int) bool) {
		for to := range placeOf(d.Names, 0) {
			if d.leads(from, to) && !yield(to) {
				return
			}
		}
	}
}

// isChain reports whether a list of places of the given names, which is not empty, is a chain.
func (d desk) isChain(list []int) bool {
	for i := 1; i < len(list); i++ {
		if !d.leads(list[i-1], list[i]) {
			return false
		}
	}
	return list[len(list)-1] == list[0] && slices.Contains(list, mate(list[0]))
}

// reached returns which places are reached from one by any number of steps.
func (d desk) reached(from int) reach {
	var now reach
	now[from] = true
	for {
		before := now
		for place, in := range before {
			if !in {
				continue
			}
			for to := range d.steps(place) {
				now[to] = true
			}
		}
		if now == before {
			return now
		}
	}
}

// turns reports whether steps lead from a place to its mate, and back.
func (d desk) turns(place int) bool {
	return d.reached(place)[mate(place)] && d.reached(mate(place))[place]
}

// chainFrom returns a chain from a place that turns.
// Each way has each place once at most, so that both together are no longer than a chain may be.
func (d desk) chainFrom(place int) []int {
	w := walk{desk: d, seen: make(marks, placeOf(d.Names, 0))}
	there := w.way(place, mate(place))
	back := w.way(mate(place), place)
	list := make([]int, len(there)+len(back)-1)
	copy(list, there)
	copy(list[len(there)-1:], back)
	return list
}

// way returns a shortest list of places in which steps lead from one to another one, which is reached from it.
func (w walk) way(from, to int) []int {
	w.seen.set(from)
	lists := [][]int{{from}}
	for len(lists) > 0 {
		list := lists[0]
		lists = lists[1:]
		last := list[len(list)-1]
		if last == to {
			return list
		}
		for next := range w.steps(last) {
			if !w.seen[next] {
				w.seen[next] = true
				lists = append(lists, append(list[:len(list):len(list)], next))
			}
		}
	}
	return nil
}
