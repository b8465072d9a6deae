package rank

import (
	"iter"

	"burin/api"
)

// pair is two stars, the lesser number first.
type pair struct {
	one, two int
}

// plan is how the stars of a sky are looked at.
type plan struct {
	*sky
	kept map[table]int // depths that are known
}

// planFor returns a plan for a book, or an error if there is none.
func planFor(b api.RankBook) (*plan, api.Errno) {
	s, e := orderedSky(b)
	if e != api.OK {
		return nil, e
	}
	if s.Stars > api.MaxRankFew {
		return nil, api.ErrOver
	}
	return &plan{s, map[table]int{}}, api.OK
}

// open yields the pairs of which each star may be brighter, by a settled table, in lexicographic order.
func (p *plan) open(t table) iter.Seq[pair] {
	return func(yield func(pair) bool) {
		for one := range p.Stars {
			for two := one + 1; two < p.Stars; two++ {
				if !t[one].has(two) && !t[two].has(one) && !yield(pair{one, two}) {
					return
				}
			}
		}
	}
}

// depth returns how many looks decide, in the worst case, by a settled table. If nothing is open there is just one order.
func (p *plan) depth(t table) int {
	if depth, known := p.kept[t]; known {
		return depth
	}
	depth := 0
	for next := range p.open(t) {
		looks := p.looks(t, next)
		if depth == 0 || looks < depth {
			depth = looks
		}
	}
	p.kept[t] = depth
	return depth
}

// looks returns how many looks decide, in the worst case, if a pair that is open is looked at first.
func (p *plan) looks(t table, next pair) int {
	return 1 + max(p.depth(t.seen(next.one, next.two).settled()), p.depth(t.seen(next.two, next.one).settled()))
}

// isBest reports whether no more looks decide than there must be if a pair is looked at first.
func (p *plan) isBest(next pair) bool { return p.looks(p.brighter, next) == p.depth(p.brighter) }
