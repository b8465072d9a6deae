package mend

import (
	"cmp"
	"iter"

	"burin/api"
)

const (
	maxPlaces = api.MaxMendSide * api.MaxMendSide
	blowDepth = 4 // how far a blow takes a place down
)

// numbers are one for each place of a block; behind its last place they are 0.
type numbers [maxPlaces]int64

// spot is a place of a plate.
type spot struct {
	column, row int
}

// block is a plate that is hammered.
type block struct {
	api.MendPlate
	now      numbers       // how far its places stand up
	blows    numbers       // that its places have had
	standing map[spot]bool // those of its places that are not flat
}

// blockFor returns the block of a plate, or the error of the plate.
func blockFor(p api.MendPlate) (*block, api.Errno) {
	if e := CheckPlate(p); e != api.OK {
		return nil, e
	}
	b := evenBlock(p.Wide, p.High)
	b.Dents = p.Dents
	b.lay(b.Dents)
	return b, api.OK
}

// evenBlock returns a block of which no place stands up.
func evenBlock(wide, high int) *block {
	return &block{MendPlate: api.MendPlate{Wide: wide, High: high}, standing: map[spot]bool{}}
}

// size returns how many places there are.
func (b *block) size() int { return b.Wide * b.High }

// spotAt returns the spot with an index.
func (b *block) spotAt(index int) spot { return spot{index % b.Wide, index / b.Wide} }

// index returns the index of a spot.
func (b *block) index(s spot) int { return s.row*b.Wide + s.column }

// spots yields all places, by their indexes.
func (b *block) spots() iter.Seq[spot] {
	return func(yield func(spot) bool) {
		for i := range b.size() {
			if !yield(b.spotAt(i)) {
				return
			}
		}
	}
}

// beside yields the neighbours of a place.
func (b *block) beside(s spot) iter.Seq[spot] {
	return func(yield func(spot) bool) {
		for _, n := range [...]spot{{s.column, s.row - 1}, {s.column - 1, s.row}, {s.column + 1, s.row}, {s.column, s.row + 1}} {
			if within(0, b.Wide-1, n.column) && within(0, b.High-1, n.row) && !yield(n) {
				return
			}
		}
	}
}

// stands reports whether a place is not flat.
func (b *block) stands(s spot) bool { return b.standing[s] }

// isFlat reports whether all places are flat.
func (b *block) isFlat() bool { return len(b.standing) == 0 }

// raise lets a place stand up by so much more.
func (b *block) raise(s spot, more int64) {
	i := b.index(s)
	b.now[i] += more
	if b.now[i] > api.MendFlat {
		b.standing[s] = true
	} else {
		delete(b.standing, s)
	}
}

// lay lets each place stand up by as much more as a list says.
func (b *block) lay(dents []int64) {
	for s := range b.spots() {
		b.raise(s, dents[b.index(s)])
	}
}

// hit does so many blows at a place, whether they are possible or not.
func (b *block) hit(s spot, blows int64) {
	b.blows[b.index(s)] += blows
	b.raise(s, -blows*blowDepth)
	for n := range b.beside(s) {
		b.raise(n, blows)
	}
}

// hammer hammers the block flat.
func (b *block) hammer() {
	for {
		s, ok := first(b.spots(), b.stands)
		if !ok {
			return
		}
		b.hit(s, b.now[b.index(s)]/blowDepth) // as many as are possible one after another
	}
}

// list returns numbers of the places as a list, in new memory.
func (b *block) list(n numbers) []int64 {
	list := make([]int64, b.size())
	copy(list, n[:])
	return list
}

// sum returns the sum of all numbers.
func sum(list []int64) int64 {
	all := int64(0)
	for _, n := range list {
		all += n
	}
	return all
}

// first returns the first element that is good, and whether there is one.
func first[T any](all iter.Seq[T], good func(T) bool) (T, bool) {
	for x := range all {
		if good(x) {
			return x, true
		}
	}
	var none T
	return none, false
}

// within reports whether all numbers are from least to greatest.
func within[T cmp.Ordered](least, greatest T, numbers ...T) bool {
	for _, n := range numbers {
		if n < least || n > greatest {
			return false
		}
	}
	return true
}
