package border

import "slices"

// marks tells of numbers which ones are meant.
type marks []bool

// palette looks for tints.
type palette struct {
	before [][]int // of each constellation the neighbours that come before it
	tints  []int   // of each constellation to which one has been given
}

// clash reports whether two neighbours have the same tint.
func (c chart) clash(tints []int) bool {
	taken := make(marks, len(tints))
	for land, tint := range tints {
		clear(taken)
		for _, other := range c.neighbours(land) {
			taken[tints[other]] = true
		}
		if taken[tint] {
			return true
		}
	}
	return false
}

// different returns how many different tints there are.
func different(tints []int) int {
	n := 0
	for i, tint := range tints {
		if !slices.Contains(tints[:i], tint) {
			n++
		}
	}
	return n
}

// fewest returns the first tints with as few different ones as can be.
func (c chart) fewest() []int {
	p := palette{before: make([][]int, len(c.areas))}
	for land := range c.areas {
		list := c.neighbours(land)
		after, _ := slices.BinarySearch(list, land)
		p.before[land] = list[:after]
	}
	most := 0
	for !p.fill(0, most) {
		most++ // there are tints at the latest if each constellation may have its own
	}
	return p.tints
}

// fill gives tints to all constellations behind those that have one, of which so many are different, in the first way
// with so many different ones at most; it reports whether there is one.
func (p *palette) fill(used, most int) bool {
	land := len(p.tints)
	if land == len(p.before) {
		return true
	}
	// A tint above the next new one would only change places with it, so that there would be tints before these.
	for tint := range min(used+1, most) {
		if !p.free(land, tint) {
			continue
		}
		p.tints = append(p.tints, tint)
		if p.fill(max(used, tint+1), most) {
			return true
		}
		p.tints = p.tints[:land]
	}
	return false
}

// free reports whether no neighbour that comes before a constellation has a tint.
func (p *palette) free(land, tint int) bool {
	return !slices.ContainsFunc(p.before[land], func(other int) bool { return p.tints[other] == tint })
}
