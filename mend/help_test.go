package mend_test

import (
	"iter"
	"math"
	"slices"

	"burin/api"
)

// extremes are numbers of which no one is a side, a dent, a place, or how many blows there are.
var extremes = []int{math.MinInt, math.MinInt + 1, -1 << 40, -1 << 32, 1 << 32, 1 << 40, math.MaxInt - 1, math.MaxInt}

// of is a list, longs one of int64, plate a plate, same one whose dents are all the same.
func of(x ...int) []int        { return x }
func longs(x ...int64) []int64 { return x }
func plate(wide, high int, dents ...int64) api.MendPlate {
	return api.MendPlate{Wide: wide, High: high, Dents: dents}
}
func same(wide, high int, dent int64) api.MendPlate {
	return plate(wide, high, slices.Repeat(longs(dent), wide*high)...)
}

// plateP and plateQ are the plates P and Q of the chapter's examples, full is the greatest plate, with the greatest dents.
func plateP() api.MendPlate { return plate(2, 2, 5, 3, 2, 3) }
func plateQ() api.MendPlate { return plate(2, 2, 4, 0, 0, 0) }
func full() api.MendPlate   { return same(6, 6, 30) }

// with is a plate as wide and as high, with other dents; withDent one with another dent at a place.
func with(p api.MendPlate, dents []int64) api.MendPlate {
	p.Dents = dents
	return p
}
func withDent(p api.MendPlate, i int, dent int64) api.MendPlate {
	p.Dents = slices.Clone(p.Dents)
	p.Dents[i] = dent
	return p
}

// dice is a generator of numbers that are the same in each run.
type dice uint64

func (d *dice) upTo(n int) int {
	*d = *d*6364136223846793005 + 1442695040888963407
	return int(uint64(*d)>>33) % (n + 1)
}

func (d *dice) from(a, b int) int { return a + d.upTo(b-a) }

// dents throws dents of a plate, from 0 to most.
func (d *dice) dents(p api.MendPlate, most int) api.MendPlate {
	p.Dents = make([]int64, p.Wide*p.High)
	for i := range p.Dents {
		p.Dents[i] = int64(d.upTo(most))
	}
	return p
}

// plate throws a plate, as great as there can be at most, and some that are flat.
func (d *dice) plate(side int) api.MendPlate {
	p := api.MendPlate{Wide: d.from(1, side), High: d.from(1, side)}
	return d.dents(p, []int{3, 4, 5, 8, 15, 30}[d.upTo(5)])
}

// plates throws a number of plates, and adds those of the examples, and the greatest one.
func plates(seed dice, side, n int) []api.MendPlate {
	out := []api.MendPlate{plateP(), plateQ(), full(), plate(1, 1, 0), plate(1, 1, 30), same(6, 6, 0), same(6, 1, 30), same(1, 6, 30)}
	for range n {
		out = append(out, seed.plate(side))
	}
	return out
}

// blows throws as many blows at each place as another list has, or a few more or fewer.
func (d *dice) blows(list []int64, about int) []int64 {
	out := slices.Clone(list)
	for i := range out {
		out[i] = max(0, out[i]+int64(d.from(-about, about)))
	}
	return out
}

// allPlates yields all plates of a width and a height with dents from 0 to most. Each has a list of its own.
func allPlates(wide, high int, most int64) iter.Seq[api.MendPlate] {
	return func(yield func(api.MendPlate) bool) {
		dents := make([]int64, wide*high)
		for {
			if !yield(plate(wide, high, slices.Clone(dents)...)) {
				return
			}
			i := 0
			for i < len(dents) && dents[i] == most {
				dents[i] = 0
				i++
			}
			if i == len(dents) {
				return
			}
			dents[i]++
		}
	}
}

// sizes yields all widths and heights up to a side.
func sizes(side int) iter.Seq2[int, int] {
	return func(yield func(int, int) bool) {
		for wide := 1; wide <= side; wide++ {
			for high := 1; high <= side; high++ {
				if !yield(wide, high) {
					return
				}
			}
		}
	}
}

// mirrored, upended and exchanged return the place to which a place goes if the columns, or the rows, are turned round, or
// rows and columns are exchanged.
func mirrored(p api.MendPlate, i int) int  { return i/p.Wide*p.Wide + p.Wide - 1 - i%p.Wide }
func upended(p api.MendPlate, i int) int   { return (p.High-1-i/p.Wide)*p.Wide + i%p.Wide }
func exchanged(p api.MendPlate, i int) int { return i%p.Wide*p.High + i/p.Wide }

// gone returns what a list of places becomes if each of them goes to another one.
func gone(p api.MendPlate, list []int64, to func(api.MendPlate, int) int) []int64 {
	out := make([]int64, len(list))
	for i, n := range list {
		out[to(p, i)] = n
	}
	return out
}

// nearby and all that follows are the chapter's definitions.
// They are there to check what package mend finds.

// nearby returns the neighbours of a place.
func nearby(p api.MendPlate, i int) []int {
	var out []int
	for k := range p.Wide * p.High {
		across, down := k%p.Wide-i%p.Wide, k/p.Wide-i/p.Wide
		if across*across+down*down == 1 {
			out = append(out, k)
		}
	}
	return out
}

// struck returns the dents behind a number of blows at a place.
func struck(p api.MendPlate, i int, blows int64) []int64 {
	out := slices.Clone(p.Dents)
	out[i] -= 4 * blows
	for _, k := range nearby(p, i) {
		out[k] += blows
	}
	return out
}

// isFlat tells whether a plate is flat.
func isFlat(p api.MendPlate) bool { return slices.Max(p.Dents) <= 3 }

// standing returns the places that are not flat.
func standing(p api.MendPlate) []int {
	var out []int
	for i, dent := range p.Dents {
		if dent > 3 {
			out = append(out, i)
		}
	}
	return out
}

// hammered does one blow after another, each at one of the places that are not flat, and returns what is left, and the blows.
func hammered(p api.MendPlate, choose func(places []int) int) ([]int64, []int64) {
	blows := make([]int64, len(p.Dents))
	for list := standing(p); len(list) > 0; list = standing(p) {
		i := choose(list)
		blows[i]++
		p.Dents = struck(p, i, 1)
	}
	return slices.Clone(p.Dents), blows
}

// last chooses the last place.
func last(places []int) int { return places[len(places)-1] }

// flatOf is a plate, hammered flat, in the order of the last places first; it is quicker than one blow after another.
func flatOf(p api.MendPlate) api.MendPlate {
	for list := standing(p); len(list) > 0; list = standing(p) {
		p.Dents = struck(p, last(list), p.Dents[last(list)]/4)
	}
	return p
}

// behind returns the dents behind blows at all places.
func behind(p api.MendPlate, blows []int64) []int64 {
	for i, n := range blows {
		p.Dents = struck(p, i, n)
	}
	return p.Dents
}

// laid returns two plates laid upon one another, hammered flat.
func laid(p, q api.MendPlate) []int64 {
	both := slices.Clone(p.Dents)
	for i, dent := range q.Dents {
		both[i] += dent
	}
	return flatOf(with(p, both)).Dents
}

// burntOf returns the places that burn.
func burntOf(p api.MendPlate) []int {
	var burnt []int
	next := func() int {
		for i, dent := range p.Dents {
			left := slices.DeleteFunc(nearby(p, i), func(k int) bool { return slices.Contains(burnt, k) })
			if !slices.Contains(burnt, i) && int(dent) >= len(left) {
				return i
			}
		}
		return -1
	}
	for i := next(); i >= 0; i = next() {
		burnt = append(burnt, i)
	}
	return burnt
}

// returning returns all flat plates that come back, of a width and a height.
func returning(wide, high int) []api.MendPlate {
	var out []api.MendPlate
	for p := range allPlates(wide, high, 3) {
		if len(burntOf(p)) == len(p.Dents) {
			out = append(out, p)
		}
	}
	return out
}

// neutralsOf returns those of the plates that come back that leave all of them as they are.
func neutralsOf(list []api.MendPlate) []api.MendPlate {
	var out []api.MendPlate
	for _, p := range list {
		changed := slices.ContainsFunc(list, func(q api.MendPlate) bool { return !slices.Equal(laid(p, q), q.Dents) })
		if !changed {
			out = append(out, p)
		}
	}
	return out
}

// product returns how many flat plates come back, by a product of cosines: the determinant of what blows take away is that
// of their waves.
func product(wide, high int) int64 {
	all := 1.0
	for i := 1; i <= wide; i++ {
		for k := 1; k <= high; k++ {
			all *= 4 - 2*math.Cos(math.Pi*float64(i)/float64(wide+1)) - 2*math.Cos(math.Pi*float64(k)/float64(high+1))
		}
	}
	return int64(math.Round(all))
}
