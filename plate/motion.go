package plate

import (
	"iter"

	"burin/api"
)

const (
	quarters    = 4            // of a whole turn
	motionCount = 2 * quarters // those from quarters on begin with a mirror
)

// motions tells of the motions which ones are meant.
type motions [motionCount]bool

func (m motions) has(motion int) bool { return m[motion] }

// anyMotion means all motions.
func anyMotion(int) bool { return true }

func areMotions(numbers ...int) bool { return within(0, motionCount-1, numbers...) }

func mirrors(motion int) bool { return motion >= quarters }

// motionOf returns the motion that mirrors, or does not, and then makes so many quarters.
func motionOf(mirrored bool, turns int) int {
	if mirrored {
		return turns%quarters + quarters
	}
	return turns % quarters
}

// after returns the motion that is the other one after the one.
func after(one, other int) int {
	turns := one % quarters
	if mirrors(other) {
		turns = quarters - turns // behind a mirror the quarters before it go the other way round
	}
	return motionOf(mirrors(one) != mirrors(other), turns+other%quarters)
}

// inverse returns the inverse of a motion.
func inverse(motion int) int {
	if mirrors(motion) {
		return motion // the second mirror makes the second quarters go back
	}
	return motionOf(false, quarters-motion)
}

// those yields the motions that count, in increasing order.
func those(count func(motion int) bool) iter.Seq[int] {
	return func(yield func(int) bool) {
		for motion := range motionCount {
			if count(motion) && !yield(motion) {
				return
			}
		}
	}
}

// doneAfter yields the motions that count, each one with each of the kinds that is done after it.
func doneAfter(count func(motion int) bool, kinds []int) iter.Seq2[int, int] {
	return func(yield func(int, int) bool) {
		for motion := range those(count) {
			for _, kind := range kinds {
				if !yield(motion, kind) {
					return
				}
			}
		}
	}
}

// areKinds reports whether a list is one of kinds.
func areKinds(list []int) bool {
	before := -1
	for _, kind := range list {
		if !within(before+1, motionCount-1, kind) {
			return false
		}
		before = kind
	}
	return true
}

// reachedFor returns the motions that are reached, or the error of the kinds.
func reachedFor(kinds []int) (motions, api.Errno) {
	if !areKinds(kinds) {
		return motions{}, api.ErrRange
	}
	reached := motions{true} // the empty plan makes motion 0
	for {
		before := reached
		for motion, kind := range doneAfter(before.has, kinds) {
			reached[after(motion, kind)] = true
		}
		if reached == before {
			return reached, api.OK
		}
	}
}

// least returns the first of the elements before which no other one comes, and whether there is any.
func least[T any](all iter.Seq[T], compare func(a, b T) int) (T, bool) {
	var best T
	found := false
	for x := range all {
		if !found || compare(x, best) < 0 {
			best, found = x, true
		}
	}
	return best, found
}
