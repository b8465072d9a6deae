package plate_test

import (
	"math"
	"slices"

	"burin/api"
)

// extremes are numbers of which no one is a size, a class, a motion, a height, or how many there are.
var extremes = []int{math.MinInt, math.MinInt + 1, -1 << 40, 1 << 40, math.MaxInt - 1, math.MaxInt}

// of is a list, square a plate.
func of(x ...int) []int                            { return x }
func square(size int, dots ...int) api.PlateSquare { return api.PlateSquare{Size: size, Dots: dots} }

// plateP and plateQ are the plates P and Q of the chapter's examples.
func plateP() api.PlateSquare { return square(2, 1, 0, 0, 0) }
func plateQ() api.PlateSquare { return square(2, 0, 1, 0, 0) }

// plain has just one class of dots.
func plain(size, class int) api.PlateSquare {
	return square(size, slices.Repeat(of(class), size*size)...)
}

// lopsided has as many rows as there can be, and is another one under each motion.
func lopsided() api.PlateSquare {
	p := plain(8, 3)
	p.Dots[6], p.Dots[9], p.Dots[63] = 0, 1, 2
	return p
}

// full is as great a plate as there can be, of dots of all classes.
func full() api.PlateSquare {
	p := plain(8, 0)
	for i := range p.Dots {
		p.Dots[i] = (i*i + i/8) % 4
	}
	return p
}

func same(a, b api.PlateSquare) bool { return a.Size == b.Size && slices.Equal(a.Dots, b.Dots) }

func copyOf(p api.PlateSquare) api.PlateSquare { return square(p.Size, slices.Clone(p.Dots)...) }

// dice is a generator of numbers that are the same in each run.
type dice uint64

func (d *dice) upTo(n int) int {
	*d = *d*6364136223846793005 + 1442695040888963407
	return int(uint64(*d)>>33) % (n + 1)
}

func (d *dice) from(a, b int) int { return a + d.upTo(b-a) }

// kinds throws some kinds.
func (d *dice) kinds() []int { return kindsOf(d.upTo(255)) }

// plate throws a plate of a size. Half of them stay under some motion, at least.
func (d *dice) plate(size int) api.PlateSquare {
	p, most := plain(size, 0), d.from(1, 3)
	for i := range p.Dots {
		p.Dots[i] = d.upTo(most)
	}
	if d.upTo(1) == 0 {
		return p
	}
	motion := d.from(1, 7)
	for range 4 { // what comes to a place four times is the same as what was there
		for i, x := range movedOf(p, motion).Dots {
			p.Dots[i] = min(p.Dots[i], x)
		}
	}
	return p
}

// plates throws a number of plates up to a size, and adds those of the examples.
func plates(seed dice, n, size int) []api.PlateSquare {
	out := []api.PlateSquare{plateP(), plateQ(), plain(1, 0), plain(1, 3)}
	for range n {
		out = append(out, seed.plate(seed.from(1, size)))
	}
	return out
}

// allPlates returns all plates of a size, with so many classes, in lexicographic order.
func allPlates(size, classes int) []api.PlateSquare {
	list := []api.PlateSquare{{Size: size}}
	for range size * size {
		var longer []api.PlateSquare
		for _, p := range list {
			for class := range classes {
				longer = append(longer, square(size, append(slices.Clone(p.Dots), class)...))
			}
		}
		list = longer
	}
	return list
}

// kindsOf returns the kinds of which a mask has the bits, allKinds all kinds there are.
func kindsOf(mask int) []int {
	var out []int
	for m := range 8 {
		if mask>>m&1 == 1 {
			out = append(out, m)
		}
	}
	return out
}
func allKinds() [][]int {
	var out [][]int
	for mask := range 256 {
		out = append(out, kindsOf(mask))
	}
	return out
}

// mirroredOf, quarterOf, movedOf and all that follows are the chapter's definitions.
// They are there to check what package plate finds.
func mirroredOf(p api.PlateSquare) api.PlateSquare {
	out := copyOf(p)
	for r := range p.Size {
		slices.Reverse(out.Dots[r*p.Size : (r+1)*p.Size])
	}
	return out
}
func quarterOf(p api.PlateSquare) api.PlateSquare {
	out := plain(p.Size, -1)
	for r := range p.Size {
		for c := range p.Size {
			out.Dots[c*p.Size+p.Size-1-r] = p.Dots[r*p.Size+c]
		}
	}
	return out
}
func movedOf(p api.PlateSquare, motion int) api.PlateSquare {
	if motion >= 4 {
		p = mirroredOf(p)
	}
	for range motion % 4 {
		p = quarterOf(p)
	}
	return copyOf(p)
}

// numbered has another dot at each place, which no plate that is valid has, so that there is no mistaking a motion.
func numbered(size int) api.PlateSquare {
	p := plain(size, 0)
	for i := range p.Dots {
		p.Dots[i] = i
	}
	return p
}

// afterOf looks for the motion that brings all dots where two motions do.
func afterOf(one, other int) int {
	want := movedOf(movedOf(numbered(3), one), other)
	for m := range 8 {
		if same(movedOf(numbered(3), m), want) {
			return m
		}
	}
	panic("no motion is both")
}

// afters is afterOf of all motions.
func afters() [8][8]int {
	var out [8][8]int
	for one := range 8 {
		for other := range 8 {
			out[one][other] = afterOf(one, other)
		}
	}
	return out
}

// madeOf returns the motion that a plan makes.
func madeOf(plan []int) int {
	p := numbered(3)
	for _, kind := range plan {
		p = movedOf(p, kind)
	}
	for m := range 8 {
		if same(movedOf(numbered(3), m), p) {
			return m
		}
	}
	panic("no motion is made")
}

// allPlans returns all plans for kinds of a length, in lexicographic order.
func allPlans(kinds []int, long int) [][]int {
	list := [][]int{nil}
	for range long {
		var longer [][]int
		for _, l := range list {
			for _, kind := range kinds {
				longer = append(longer, append(slices.Clone(l), kind))
			}
		}
		list = longer
	}
	return list
}

// madeBy returns, for each length of plans up to 20, the motions that plans of that length make.
func madeBy(kinds []int, table [8][8]int) [21][8]bool {
	var out [21][8]bool
	out[0][0] = true
	for long := 1; long <= 20; long++ {
		for m := range 8 {
			for _, kind := range kinds {
				if out[long-1][m] {
					out[long][table[m][kind]] = true
				}
			}
		}
	}
	return out
}

// heightsOf returns the length of the shortest plan for each motion, or 20.
func heightsOf(kinds []int, table [8][8]int) []int {
	made := madeBy(kinds, table)
	out := slices.Repeat(of(20), 8)
	for m := range out {
		for long := 20; long >= 0; long-- {
			if made[long][m] {
				out[m] = long
			}
		}
	}
	return out
}

// reachedOf returns the motions that are reached.
func reachedOf(kinds []int, table [8][8]int) []int {
	made := madeBy(kinds, table)
	var out []int
	for m := range 8 {
		if slices.ContainsFunc(made[:], func(made [8]bool) bool { return made[m] }) {
			out = append(out, m)
		}
	}
	return out
}

// areHeights tells whether numbers are heights for kinds.
func areHeights(kinds, heights []int, table [8][8]int) bool {
	for m := range 8 {
		for _, kind := range kinds {
			if heights[table[m][kind]] > heights[m]+1 {
				return false
			}
		}
	}
	return heights[0] == 0 && slices.Min(heights) >= 0 && slices.Max(heights) <= 20
}

// circlesOf gives places that a motion moves to one another the same number, until no number changes.
func circlesOf(size, motion int) int {
	comes := movedOf(numbered(size), motion).Dots // where what is in each place came from
	number := numbered(size).Dots
	for again := true; again; {
		again = false
		for to, from := range comes {
			if least := min(number[to], number[from]); number[to] != number[from] {
				number[to], number[from], again = least, least, true
			}
		}
	}
	slices.Sort(number)
	return len(slices.Compact(number))
}

// apartOf returns how many plates are different under motions, of all plates of a size with so many classes: those
// that are the first ones of all that are alike to them.
func apartOf(all []api.PlateSquare, reached []int) int64 {
	n := int64(0)
	for _, p := range all {
		first := true
		for _, m := range reached {
			first = first && slices.Compare(p.Dots, movedOf(p, m).Dots) <= 0
		}
		if first {
			n++
		}
	}
	return n
}
