package border_test

import (
	"math/bits"
	"slices"

	"burin/api"
	"burin/border"
)

// of is a list, bx a box, boxes a list of boxes of four numbers each, sky a sky.
func of(x ...int) []int { return x }
func bx(from, wide, low, high int) api.BorderBox {
	return api.BorderBox{From: from, Wide: wide, Low: low, High: high}
}
func boxes(x ...int) []api.BorderBox {
	var out []api.BorderBox
	for i := 0; i < len(x); i += 4 {
		out = append(out, bx(x[i], x[i+1], x[i+2], x[i+3]))
	}
	return out
}
func sky(hours, zones int, lands ...[]api.BorderBox) api.BorderSky {
	return api.BorderSky{Hours: hours, Zones: zones, Lands: lands}
}

// skyS, skyG and skyT are the skies of the chapter's examples.
func skyS() api.BorderSky {
	return sky(6, 3, boxes(0, 2, 0, 2), boxes(2, 4, 0, 1, 2, 2, 1, 2), boxes(4, 2, 1, 2, 0, 6, 2, 3))
}
func skyG() api.BorderSky {
	return sky(6, 3, boxes(0, 2, 0, 2), boxes(2, 4, 0, 1, 2, 2, 1, 2), boxes(4, 2, 1, 2))
}
func skyT() api.BorderSky {
	return sky(6, 3, boxes(0, 3, 0, 2), boxes(2, 4, 0, 1, 2, 2, 1, 2), boxes(4, 2, 1, 2, 0, 6, 2, 3))
}

// fullSky has as many hours, zones, constellations and boxes as there can be, and each place is in all constellations.
func fullSky() api.BorderSky {
	return sky(48, 24, slices.Repeat([][]api.BorderBox{slices.Repeat(boxes(47, 48, 0, 24), 600)}, 10)...)
}

// checkered is as great a sky as there can be, covered once by two constellations of which no two places lie side by side.
func checkered() api.BorderSky {
	s := sky(48, 24, nil, nil)
	for zone := range 24 {
		for hour := range 48 {
			land := (hour + zone) % 2
			s.Lands[land] = append(s.Lands[land], bx(hour, 1, zone, zone+1))
		}
	}
	return s
}

func copyOf(s api.BorderSky) api.BorderSky {
	s.Lands = slices.Clone(s.Lands)
	for i, l := range s.Lands {
		s.Lands[i] = slices.Clone(l)
	}
	return s
}

func same(a, b api.BorderSky) bool {
	return a.Hours == b.Hours && a.Zones == b.Zones && slices.EqualFunc(a.Lands, b.Lands, slices.Equal[[]api.BorderBox])
}

// dice is a generator of numbers that are the same in each run.
type dice uint64

func (d *dice) upTo(n int) int {
	*d = *d*6364136223846793005 + 1442695040888963407
	return int(uint64(*d)>>33) % (n + 1)
}

func (d *dice) from(a, b int) int { return a + d.upTo(b-a) }

// box throws a valid box of a sky.
func (d *dice) box(s api.BorderSky) api.BorderBox {
	low := d.upTo(s.Zones - 1)
	return bx(d.upTo(s.Hours-1), d.from(1, s.Hours), low, d.from(low+1, s.Zones))
}

// sky throws a valid sky of up to so many constellations, of which some may have nothing.
func (d *dice) sky(lands int) api.BorderSky {
	s := sky(d.from(1, 7), d.from(1, 5), make([][]api.BorderBox, d.upTo(lands))...)
	for i := range s.Lands {
		for range d.upTo(3) {
			b := d.box(s)
			if d.upTo(1) == 0 {
				b.Wide = d.from(1, min(2, s.Hours))
			}
			s.Lands[i] = append(s.Lands[i], b)
		}
	}
	return s
}

// skies throws a number of skies, and adds those of the examples.
func skies(seed dice, n, lands int) []api.BorderSky {
	out := []api.BorderSky{skyS(), skyG(), skyT()}
	for range n {
		out = append(out, seed.sky(lands))
	}
	return out
}

// owned returns the sky in which each place is in the constellation of which owner has the number there, or in none.
// Boxes are of one zone; they may meet, and be there twice.
func (d *dice) owned(hours, zones, lands int, owner func(hour, zone int) int) api.BorderSky {
	s := sky(hours, zones, make([][]api.BorderBox, lands)...)
	for zone := range zones {
		for hour := range hours {
			land := owner(hour, zone)
			if land < 0 {
				continue
			}
			wide := 1
			for wide < hours && owner((hour+wide)%hours, zone) == land && d.upTo(1) == 0 {
				wide++
			}
			s.Lands[land] = append(s.Lands[land], bx(hour, wide, zone, zone+1))
		}
	}
	for _, l := range s.Lands {
		for i := range l {
			k := d.upTo(i)
			l[i], l[k] = l[k], l[i]
		}
	}
	return s
}

// parted throws a sky that is covered once.
func (d *dice) parted(lands int) api.BorderSky {
	s := sky(d.from(1, 7), d.from(1, 5))
	var owner [24][48]int
	n := d.from(1, lands)
	for range 2 * n {
		b, land := d.box(s), d.upTo(n-1)
		for zone := b.Low; zone < b.High; zone++ {
			for i := range b.Wide {
				owner[zone][(b.From+i)%s.Hours] = land
			}
		}
	}
	return d.owned(s.Hours, s.Zones, n, func(hour, zone int) int { return owner[zone][hour] })
}

// partedSkies throws a number of skies that are covered once.
func partedSkies(seed dice, n, lands int) []api.BorderSky {
	out := []api.BorderSky{skyS(), sky(1, 1, boxes(0, 1, 0, 1)), sky(2, 1, boxes(1, 1, 0, 1), boxes(0, 1, 0, 1))}
	for range n {
		out = append(out, seed.parted(lands))
	}
	return out
}

// grown throws a sky whose constellations have one piece at most, and no place in common.
func (d *dice) grown() api.BorderSky {
	hours, zones, lands := d.from(1, 12), d.from(1, 10), d.from(1, 10)
	var owner [24][48]int // the number of the constellation, counted from 1 on
	for land := range lands {
		if zone, hour := d.upTo(zones-1), d.upTo(hours-1); owner[zone][hour] == 0 {
			owner[zone][hour] = land + 1
		}
	}
	for range d.from(1, 20) * hours * zones {
		zone, hour := d.upTo(zones-1), d.upTo(hours-1)
		z, h := zone, (hour+1)%hours
		switch d.upTo(3) {
		case 0:
			h = (hour + hours - 1) % hours
		case 1:
			z, h = min(zone+1, zones-1), hour
		case 2:
			z, h = max(zone-1, 0), hour
		}
		if owner[zone][hour] == 0 {
			owner[zone][hour] = owner[z][h]
		}
	}
	return d.owned(hours, zones, lands, func(hour, zone int) int { return owner[zone][hour] - 1 })
}

// inBox, inLand, landsAt, beside and all that follows are the chapter's definitions.
// They are there to check what package border finds.
func inBox(s api.BorderSky, b api.BorderBox, hour, zone int) bool {
	return (hour-b.From+s.Hours)%s.Hours < b.Wide && b.Low <= zone && zone < b.High
}
func inLand(s api.BorderSky, land, hour, zone int) bool {
	for _, b := range s.Lands[land] {
		if inBox(s, b, hour, zone) {
			return true
		}
	}
	return false
}
func landsAt(s api.BorderSky, hour, zone int) []int {
	var out []int
	for land := range s.Lands {
		if inLand(s, land, hour, zone) {
			out = append(out, land)
		}
	}
	return out
}

// spot is an hour and a zone.
type spot [2]int

// spots returns all places, by zones, and then by hours.
func spots(s api.BorderSky) []spot {
	var out []spot
	for zone := range s.Zones {
		for hour := range s.Hours {
			out = append(out, spot{hour, zone})
		}
	}
	return out
}

// spotsOf returns the places of a constellation.
func spotsOf(s api.BorderSky, land int) []spot {
	return slices.DeleteFunc(spots(s), func(p spot) bool { return !inLand(s, land, p[0], p[1]) })
}

func beside(s api.BorderSky, p, q spot) bool {
	if p == q {
		return false
	}
	if p[1] == q[1] {
		return (p[0]+1)%s.Hours == q[0] || (q[0]+1)%s.Hours == p[0]
	}
	return p[0] == q[0] && (p[1]-q[1] == 1 || q[1]-p[1] == 1)
}

// piecesOf gives all places that lie side by side the same number, until no number changes.
func piecesOf(s api.BorderSky, land int) int {
	list := spotsOf(s, land)
	number := make([]int, len(list))
	for i := range number {
		number[i] = i
	}
	for again := true; again; {
		again = false
		for i, p := range list {
			for j, q := range list {
				if number[j] > number[i] && beside(s, p, q) {
					number[j], again = number[i], true
				}
			}
		}
	}
	n := 0
	for i := range number {
		if number[i] == i {
			n++
		}
	}
	return n
}

func borderOf(s api.BorderSky, one, two int) int {
	n := 0
	list := spots(s)
	for i, p := range list {
		for _, q := range list[i+1:] {
			if !beside(s, p, q) {
				continue
			}
			if inLand(s, one, p[0], p[1]) && inLand(s, two, q[0], q[1]) {
				n++
			}
			if inLand(s, two, p[0], p[1]) && inLand(s, one, q[0], q[1]) {
				n++
			}
		}
	}
	return n
}

func areNeighbours(s api.BorderSky, one, two int) bool {
	if one == two {
		return false
	}
	for _, p := range spotsOf(s, one) {
		if inLand(s, two, p[0], p[1]) {
			return true
		}
	}
	return borderOf(s, one, two) > 0
}

func neighboursOf(s api.BorderSky, land int) []int {
	var out []int
	for other := range s.Lands {
		if areNeighbours(s, land, other) {
			out = append(out, other)
		}
	}
	return out
}

// near returns of each constellation its neighbours, as a mask.
func near(s api.BorderSky) []int {
	out := make([]int, len(s.Lands))
	for land := range out {
		for _, other := range neighboursOf(s, land) {
			out[land] |= 1 << other
		}
	}
	return out
}

// allLists returns all lists of so many numbers from 0 to how many there are, less 1, in lexicographic order.
func allLists(long int) [][]int {
	list := [][]int{nil}
	for range long {
		var longer [][]int
		for _, l := range list {
			for x := range long {
				longer = append(longer, append(slices.Clone(l), x))
			}
		}
		list = longer
	}
	return list
}

func areTints(near []int, tints []int) bool {
	for a := range tints {
		for b := range a {
			if near[a]>>b&1 == 1 && tints[a] == tints[b] {
				return false
			}
		}
	}
	return true
}

func countOf(tints []int) int {
	mask := 0
	for _, x := range tints {
		mask |= 1 << x
	}
	return bits.OnesCount(uint(mask))
}

// tintsOf tries all lists there are, so that it is for a few constellations only.
func tintsOf(near []int) []int {
	var best []int
	for _, l := range allLists(len(near)) {
		if areTints(near, l) && (best == nil || countOf(l) < countOf(best)) {
			best = l
		}
	}
	return best
}

// fewestOf returns how many different tints are needed: how many sets of which no two are neighbours make up all.
func fewestOf(near []int) int {
	fewest := make([]int, 1<<len(near))
	for set := 1; set < len(fewest); set++ {
		fewest[set] = len(near)
		for part := set; part > 0; part = (part - 1) & set {
			apart := true
			for a := range near {
				apart = apart && (part>>a&1 == 0 || near[a]&part == 0)
			}
			if apart {
				fewest[set] = min(fewest[set], 1+fewest[set&^part])
			}
		}
	}
	return fewest[len(fewest)-1]
}

// runsOf returns all boxes of one zone that are within a constellation, and cannot be longer.
func runsOf(s api.BorderSky, land int) []api.BorderBox {
	var out []api.BorderBox
	for zone := range s.Zones {
		for from := range s.Hours {
			for wide := 1; wide <= s.Hours; wide++ {
				all := true
				for i := range wide {
					all = all && inLand(s, land, (from+i)%s.Hours, zone)
				}
				before, after := (from+s.Hours-1)%s.Hours, (from+wide)%s.Hours
				longest := !inLand(s, land, before, zone) && !inLand(s, land, after, zone)
				if wide == s.Hours {
					longest = from == 0
				}
				if all && longest {
					out = append(out, bx(from, wide, zone, zone+1))
				}
			}
		}
	}
	return out
}

func kindOf(s api.BorderSky, land int, b api.BorderBox) int {
	in, all := 0, 0
	for _, p := range spots(s) {
		if inBox(s, b, p[0], p[1]) {
			all++
			if inLand(s, land, p[0], p[1]) {
				in++
			}
		}
	}
	switch in {
	case all:
		return 2
	case 0:
		return 0
	}
	return 1
}

// allBoxes returns all valid boxes of a sky.
func allBoxes(s api.BorderSky) []api.BorderBox {
	var out []api.BorderBox
	for from := range s.Hours {
		for wide := 1; wide <= s.Hours; wide++ {
			for low := range s.Zones {
				for high := low + 1; high <= s.Zones; high++ {
					out = append(out, bx(from, wide, low, high))
				}
			}
		}
	}
	return out
}

// measures returns the sizes, pieces and borders that are told of a sky, and its tints.
func measures(s api.BorderSky) []int {
	var out []int
	for one := range s.Lands {
		n, _ := border.Size(s, one)
		m, _ := border.Pieces(s, one)
		out = append(out, n, m)
		for two := range s.Lands {
			n, _ := border.Border(s, one, two)
			out = append(out, n)
		}
		l, _ := border.Neighbours(s, one)
		out = append(out, len(l))
		out = append(out, l...)
	}
	l, _ := border.Tints(s)
	return append(out, l...)
}

// told returns all that is told of a sky.
func told(s api.BorderSky) []int {
	out := measures(s)
	for _, p := range spots(s) {
		l, _ := border.Of(s, p[0], p[1])
		out = append(append(out, len(l)), l...)
	}
	hour, zone, n, e := border.Fault(s)
	out = append(out, hour, zone, n, int(e), int(border.Once(s)))
	for land := range s.Lands {
		for _, b := range allBoxes(s) {
			k, _ := border.Kind(s, land, b)
			out = append(out, k)
		}
		l, _ := border.Runs(s, land)
		for _, b := range l {
			out = append(out, b.From, b.Wide, b.Low, b.High)
		}
	}
	return out
}
