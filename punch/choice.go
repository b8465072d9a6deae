package punch

import (
	"cmp"
	"iter"
	"slices"
)

// marks tells of stars, by their indexes, which ones are meant.
type marks []bool

func (m marks) has(star int) bool { return m[star] }

// all yields the stars that are meant, increasing.
func (m marks) all() iter.Seq[int] {
	return func(yield func(int) bool) {
		for star, meant := range m {
			if meant && !yield(star) {
				return
			}
		}
	}
}

// indexOf is the rank of stars that come by their indexes.
func indexOf(star int) int { return star }

// indexBut returns the rank of stars that come by their indexes, but for one that has a rank of its own.
func indexBut(one, rank int) func(star int) int {
	return func(star int) int {
		if star == one {
			return rank
		}
		return star
	}
}

// byWeight returns all stars, the heavier ones first, of several with the same Weight those with the lesser rank.
func (b bench) byWeight(rank func(star int) int) []int {
	order := make([]int, len(b.Stars))
	for star := range order {
		order[star] = star
	}
	slices.SortFunc(order, func(one, other int) int {
		return cmp.Or(
			cmp.Compare(b.Stars[other].Weight, b.Stars[one].Weight),
			cmp.Compare(rank(one), rank(other)),
		)
	})
	return order
}

// chosen returns the stars that are taken if those with the same Weight come by a rank, and strikes just these.
func (b bench) chosen(rank func(star int) int) marks {
	clear(b.at)
	taken := make(marks, len(b.Stars))
	for _, star := range b.byWeight(rank) {
		taken[star] = b.add(star)
	}
	return taken
}

// weight returns the sum of the Weights of the stars that are meant.
func (b bench) weight(meant func(star int) bool) int64 {
	sum := int64(0)
	for star, s := range b.Stars {
		if meant(star) {
			sum += s.Weight
		}
	}
	return sum
}
