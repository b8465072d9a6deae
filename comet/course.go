package comet

import "burin/api"

// course is a path: its place on the day 0, and the differences there. Those that a path of a low degree does not have are
// 0, as they add nothing to a place.
type course struct {
	start int64
	steps [api.MaxCometDegree]int64
}

// courseOf returns the course of a path.
func courseOf(path []int64) course {
	c := course{start: path[0]}
	copy(c.steps[:], path[1:])
	return c
}

// path returns the course as a path of a degree, in new memory.
func (c course) path(degree int) []int64 {
	path := make([]int64, degree+1)
	path[0] = c.start
	copy(path[1:], c.steps[:])
	return path
}

// place returns the place on a day.
func (c course) place(day int64) int64 {
	at, ways := c.start, int64(1)
	for k, step := range c.steps {
		ways = ways * (day - int64(k)) / int64(k+1) // to choose one more of the days
		at += step * ways
	}
	return at
}

// passes reports whether a sighting lies on the course.
func (c course) passes(sighting api.CometSighting) bool { return c.place(sighting.Day) == sighting.At }

// differences returns the course that the differences from one day to the next one take.
func (c course) differences() course { return courseOf(c.steps[:]) }

// later returns the course if the day 0 is so many days later.
func (c course) later(days int64) course {
	late := course{start: c.place(days)}
	for k := range late.steps {
		c = c.differences()
		late.steps[k] = c.place(days)
	}
	return late
}

// isStill reports whether the place is the same on each day.
func (c course) isStill() bool { return c.steps == [api.MaxCometDegree]int64{} }

// degree returns the least degree of a path of this course.
func (c course) degree() int {
	if c.isStill() {
		return 0
	}
	degree := api.MaxCometDegree
	for c.steps[degree-1] == 0 {
		degree--
	}
	return degree
}

// through returns the course on which all of at most 4 sightings lie, with a degree that is less than how many they are, and
// whether its numbers are whole. They are if the places on so many days from the day 0 on are. (As Day and At are small, no
// number is beyond MaxCometNumber.)
func through(sightings []api.CometSighting) (course, bool) {
	var numbers [api.MaxCometDegree + 1]int64
	for day := range sightings {
		num, den := placeBy(sightings, int64(day))
		if num%den != 0 {
			return course{}, false
		}
		numbers[day] = num / den
	}
	for k := range sightings {
		for i := len(sightings) - 1; i > k; i-- {
			numbers[i] -= numbers[i-1]
		}
	}
	return courseOf(numbers[:]), true
}

// placeBy returns the place on a day, by Lagrange's formula, as a fraction that may not be in least terms: for each sighting
// there is a term, which is its place on its day, and 0 on those of the other ones.
func placeBy(sightings []api.CometSighting, day int64) (num, den int64) {
	den = 1
	for i, one := range sightings {
		for _, two := range sightings[:i] {
			den *= one.Day - two.Day
		}
	}
	for _, one := range sightings {
		term, by := one.At, den
		for _, two := range sightings {
			if two.Day != one.Day {
				term *= day - two.Day
				by /= one.Day - two.Day
			}
		}
		num += term * by
	}
	return num, den
}
