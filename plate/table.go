package plate

import (
	"slices"

	"burin/api"
)

// spot is a place of a plate.
type spot struct {
	row, column int
}

// spotAt returns the spot with an index, on a plate of a size.
func spotAt(index, size int) spot { return spot{index / size, index % size} }

// index returns the index of a spot, on a plate of a size.
func (s spot) index(size int) int { return s.row*size + s.column }

// moved returns the spot to which a motion moves what is in one, on a plate of a size.
func (s spot) moved(size, motion int) spot {
	if mirrors(motion) {
		s.column = size - 1 - s.column
	}
	for range motion % quarters {
		s = spot{s.column, size - 1 - s.row}
	}
	return s
}

// table is a plate with the classes of its spots, of which those that are empty (of class 0) are not there.
type table struct {
	api.PlateSquare
	classes map[spot]int
}

// tableFor returns the table of a plate, or the error of the plate.
func tableFor(p api.PlateSquare) (table, api.Errno) {
	if e := CheckPlate(p); e != api.OK {
		return table{}, e
	}
	t := table{PlateSquare: p, classes: map[spot]int{}}
	for i, class := range p.Dots {
		t.classes[spotAt(i, p.Size)] = class
	}
	for s, class := range t.classes {
		if class == 0 {
			delete(t.classes, s)
		}
	}
	return t, api.OK
}

// moved returns the plate, moved, in new memory.
func (t table) moved(motion int) api.PlateSquare {
	dots := make([]int, len(t.Dots))
	for s, class := range t.classes {
		dots[s.moved(t.Size, motion).index(t.Size)] = class
	}
	return api.PlateSquare{Size: t.Size, Dots: dots}
}

// compareMoved compares the plate, moved by one motion, with itself, moved by another one.
func (t table) compareMoved(one, other int) int {
	return slices.Compare(t.moved(one).Dots, t.moved(other).Dots)
}

// comesTo reports whether a motion moves the plate to another one.
func (t table) comesTo(other table, motion int) bool {
	if t.Size != other.Size || len(t.classes) != len(other.classes) {
		return false
	}
	for s, class := range t.classes {
		if other.classes[s.moved(t.Size, motion)] != class {
			return false
		}
	}
	return true
}

// stays reports whether the plate stays under a motion.
func (t table) stays(motion int) bool { return t.comesTo(t, motion) }
