package name

import (
	"iter"

	"burin/api"
)

// unset stands for the side of a name that is not set.
const unset = -1

// setting is the side of each name; names that a sheet does not have are not set.
type setting [api.MaxNameNames]int

// noneSet returns the setting that sets no name.
func noneSet() setting {
	var s setting
	for n := range s {
		s[n] = unset
	}
	return s
}

// with returns the setting with one more name.
func (s setting) with(name, side int) setting {
	s[name] = side
	return s
}

// uses reports whether a setting uses a place.
func (s setting) uses(place int) bool {
	name := nameOf(place)
	return s[name] != unset && placeOf(name, s[name]) == place
}

// size returns how many names a setting sets.
func (s setting) size() int {
	n := 0
	for _, side := range s {
		if side != unset {
			n++
		}
	}
	return n
}

// list returns the sides of the first names, in new memory.
func (s setting) list(names int) []int {
	out := make([]int, names)
	copy(out, s[:])
	return out
}

// anySetting means all settings.
func anySetting(setting) bool { return true }

// using means the settings that use a place.
func using(place int) func(setting) bool {
	return func(s setting) bool { return s.uses(place) }
}

// isRight reports whether a setting uses no place that is covered, and no two that meet.
func isRight(sheet api.NameSheet, s setting) bool {
	for _, p := range sheet.Covered {
		if s.uses(p) {
			return false
		}
	}
	for _, m := range sheet.Meets {
		if s.uses(m[0]) && s.uses(m[1]) {
			return false
		}
	}
	return true
}

// sides yields the sides on which a name can be set beside those that are.
func (d desk) sides(s setting, name int) iter.Seq[int] {
	return func(yield func(int) bool) {
	search:
		for side := range 2 {
			place := placeOf(name, side)
			if d.covers(place) {
				continue
			}
			for other, used := range s {
				if used != unset && d.meet(place, placeOf(other, used)) {
					continue search
				}
			}
			if !yield(side) {
				return
			}
		}
	}
}

// settings yields the right settings that set just the given names, in lexicographic order.
func (d desk) settings() iter.Seq[setting] {
	return func(yield func(setting) bool) {
		d.fill(noneSet(), 0, yield)
	}
}

// fill yields those of settings in which the names before one are set as they are, and reports whether it should go on.
func (d desk) fill(s setting, name int, yield func(setting) bool) bool {
	if name == d.Names {
		return yield(s)
	}
	if !d.given[name] {
		return d.fill(s, name+1, yield)
	}
	for side := range d.sides(s, name) {
		if !d.fill(s.with(name, side), name+1, yield) {
			return false
		}
	}
	return true
}

// most returns the greatest number of names that a right setting sets in which the names before one, of which so many
// are set, are as they are; or best, if that is greater.
func (d desk) most(s setting, name, set, best int) int {
	if set+d.Names-name <= best {
		return best // not even all the others would make more
	}
	if name == d.Names {
		return set
	}
	for side := range d.sides(s, name) {
		best = d.most(s.with(name, side), name+1, set+1, best)
	}
	return d.most(s, name+1, set, best)
}
