package comet

import (
	"cmp"
	"iter"
	"maps"
	"math/bits"
	"slices"

	"burin/api"
)

// set is some of the sightings, a bit for each.
type set uint16

func (s set) has(sighting int) bool { return s>>sighting&1 == 1 }
func (s set) size() int             { return bits.OnesCount16(uint16(s)) }

// sheet is a log, and a mark at each sighting that lies on the course that was drawn on it last.
type sheet struct {
	api.CometLog
	marks [api.MaxCometSightings]bool
}

// sheetFor returns the sheet of a log, or the error of the log.
func sheetFor(l api.CometLog) (*sheet, api.Errno) {
	if e := CheckLog(l); e != api.OK {
		return nil, e
	}
	return &sheet{CometLog: l}, api.OK
}

// areIncreasing reports whether a list is a strictly increasing one of sightings.
func (s *sheet) areIncreasing(list []int) bool {
	for i, sighting := range list {
		if i > 0 && sighting <= list[i-1] {
			return false
		}
	}
	return within(0, len(s.Sightings)-1, list...)
}

// draw marks the sightings that lie on a course, and returns how many they are.
func (s *sheet) draw(c course) int {
	clear(s.marks[:])
	many := 0
	for i, sighting := range s.Sightings {
		if c.passes(sighting) {
			s.marks[i] = true
			many++
		}
	}
	return many
}

// sets yields all sets of so many sightings.
func (s *sheet) sets(size int) iter.Seq[set] {
	return func(yield func(set) bool) {
		for some := range set(1) << len(s.Sightings) {
			if some.size() == size && !yield(some) {
				return
			}
		}
	}
}

// through returns the course on which the sightings that are meant lie, and whether it is a path.
func (s *sheet) through(meant func(sighting int) bool) (course, bool) {
	var room [api.MaxCometDegree + 1]api.CometSighting
	list := room[:0:len(room)]
	for i, sighting := range s.Sightings {
		if meant(i) {
			list = append(list, sighting)
		}
	}
	return through(list)
}

// courses yields the paths of the log, each as often as there are sets of Degree and 1 sightings on it.
func (s *sheet) courses() iter.Seq[course] {
	return func(yield func(course) bool) {
		for some := range s.sets(s.Degree + 1) {
			if c, whole := s.through(some.has); whole && !yield(c) {
				return
			}
		}
	}
}

// leaving returns a path of the log for which at most so many sightings are wrong, and whether there is one.
func (s *sheet) leaving(wrong int) (course, bool) {
search:
	for c := range s.courses() {
		left := wrong
		for _, sighting := range s.Sightings {
			if c.passes(sighting) {
				continue
			}
			if left == 0 {
				continue search
			}
			left--
		}
		return c, true
	}
	return course{}, false
}

// best is the best paths of a log, each with how many sightings lie on it, which is most.
type best struct {
	*sheet
	paths map[course]int
	most  int
}

// bestFor returns the best paths of a log. There is an error if numbers are no sightings of it, or there is no path.
func bestFor(l api.CometLog, sightings ...int) (*best, api.Errno) {
	s, e := sheetFor(l)
	if e != api.OK {
		return nil, e
	}
	if !within(0, len(s.Sightings)-1, sightings...) {
		return nil, api.ErrArg
	}
	paths := map[course]int{}
	for c := range s.courses() {
		paths[c] = s.draw(c)
	}
	if len(paths) == 0 {
		return nil, api.ErrComet
	}
	most := greatest(slices.Collect(maps.Values(paths)))
	for c, many := range paths {
		if many < most {
			delete(paths, c)
		}
	}
	return &best{s, paths, most}, api.OK
}

// wrong returns for how many best paths a sighting is wrong.
func (b *best) wrong(sighting int) int {
	many := 0
	for c := range b.paths {
		b.draw(c)
		if !b.marks[sighting] {
			many++
		}
	}
	return many
}

// greatest returns the greatest element of a list that is not empty.
func greatest[T cmp.Ordered](list []T) T {
	most := list[0]
	for _, x := range list {
		most = max(most, x)
	}
	return most
}

// within reports whether all numbers are from least to greatest.
func within[T cmp.Ordered](least, greatest T, numbers ...T) bool {
	for _, n := range numbers {
		if n < least || n > greatest {
			return false
		}
	}
	return true
}
