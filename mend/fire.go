package mend

// marks tell of the places of a block which ones are meant, by their indexes.
type marks [maxPlaces]bool

// burnt returns the places that burn, in the order in which they do.
func (b *block) burnt() []int {
	var ashes marks
	var room [maxPlaces]int
	order := room[:0:b.size()] // no place burns twice
	for {
		s, ok := b.nextToBurn(func(s spot) bool { return ashes[b.index(s)] })
		if !ok {
			break
		}
		ashes[b.index(s)] = true
		order = append(order, b.index(s))
	}
	list := make([]int, len(order))
	copy(list, order)
	return list
}

// nextToBurn returns the first place that burns next, if some have burnt, and whether there is one.
func (b *block) nextToBurn(hasBurnt func(spot) bool) (spot, bool) {
search:
	for s := range b.spots() {
		if hasBurnt(s) {
			continue
		}
		left := b.now[b.index(s)]
		for n := range b.beside(s) {
			if hasBurnt(n) {
				continue
			}
			if left == 0 {
				continue search // there are more neighbours than it stands up by
			}
			left--
		}
		return s, true
	}
	return spot{}, false
}
