package rank

import (
	"slices"

	"burin/api"
)

// isCircle reports whether a list of stars is a circle.
func (s *sky) isCircle(list []int) bool {
	for i, star := range list {
		next := list[(i+1)%len(list)]
		if !s.looked[next].has(star) {
			return false
		}
	}
	return true
}

// circle returns a circle, if there is no order. From a star on a circle a look leads to another one from which it can be
// come back to; so the walk goes on until it is at a star for the second time.
func (s *sky) circle() []int {
	clear(s.marks[:])
	var room [api.MaxRankStars]int
	walk := room[:0:s.Stars]
	star, _ := first(s.stars(), s.isCircled)
search:
	for !s.marks[star] {
		s.marks[star] = true
		walk = append(walk, star)
		for next := range s.stars() {
			if s.looked[next].has(star) && s.brighter[star].has(next) {
				star = next
				continue search
			}
		}
	}
	return taken(walk[slices.Index(walk, star):])
}
