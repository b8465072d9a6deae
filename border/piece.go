package border

// pieces returns how many pieces a constellation has.
func (c chart) pieces(land int) int {
	left := c.areas[land]
	n := 0
	for p := range c.in(&c.areas[land]) {
		if left.has(p) {
			c.takePiece(&left, p)
			n++
		}
	}
	return n
}

// takePiece takes the piece of a place from an area.
func (c chart) takePiece(a *area, from place) {
	a.set(from, false)
	list := []place{from}
	for len(list) > 0 {
		p := list[len(list)-1]
		list = list[:len(list)-1]
		for q := range c.beside(p) {
			if a.has(q) {
				a.set(q, false)
				list = append(list, q)
			}
		}
	}
}

// border returns the border of two constellations.
func (c chart) border(one, two int) int {
	n := 0
	for p := range c.in(&c.areas[one]) {
		for q := range c.beside(p) {
			if c.areas[two].has(q) {
				n++
			}
		}
	}
	return n
}

// neighbours returns the neighbours of a constellation, increasing.
func (c chart) neighbours(land int) []int {
	var list []int
search:
	for other := range c.areas {
		if other == land {
			continue
		}
		for p := range c.in(&c.areas[land]) {
			if c.touches(p, other) {
				list = append(list, other)
				continue search
			}
		}
	}
	return list
}

// touches reports whether a place, or one beside it, is in a constellation.
func (c chart) touches(p place, land int) bool {
	in := c.areas[land].has
	if in(p) {
		return true
	}
	_, found := first(c.beside(p), in)
	return found
}
