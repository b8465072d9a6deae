package punch

import "burin/api"

// counts is how many stars there are at each wear.
type counts [api.MaxPunchLife]int

// beyond returns how many stars of a plan there are at each wear for which there are no punches.
func (b bench) beyond(plan []int) counts {
	var n counts
	for _, wear := range plan {
		n[wear]++
	}
	for wear := range n {
		n[wear] = max(0, n[wear]-b.Punches)
	}
	return n
}

// anyStar means all stars.
func anyStar(int) bool { return true }

// firstPlan returns the first plan, and whether there is one; all stars are pinned to it.
func (b bench) firstPlan() ([]int, bool) {
	if !b.strikeAll(anyStar) {
		return nil, false
	}
	plan := make([]int, len(b.Stars))
	for star, s := range b.Stars {
		plan[star], _ = first(wearsOf(s), func(wear int) bool { return b.pin(star, wear) }) // at the latest where it is now
	}
	return plan, true
}

// times returns the wears at which a star is struck in some plan; the star is pinned to the last one.
func (b bench) times(star int) []int {
	if !b.strikeAll(anyStar) {
		return nil
	}
	var list []int
	for wear := range wearsOf(b.Stars[star]) {
		if b.pin(star, wear) {
			list = append(list, wear)
		}
	}
	return list
}
