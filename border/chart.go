package border

import (
	"iter"
	"slices"

	"burin/api"
)

// place is an hour of a zone.
type place struct {
	hour, zone int
}

// hours tells of the hours of a zone which ones are meant.
type hours [api.MaxBorderHours]bool

// area tells of the places of a sky which ones are meant.
type area [api.MaxBorderZones]hours

// chart is a map: a sky with the places of each of its constellations.
type chart struct {
	api.BorderSky
	areas []area
}

func (a *area) has(p place) bool     { return a[p.zone][p.hour] }
func (a *area) set(p place, in bool) { a[p.zone][p.hour] = in }

// size returns how many hours are meant.
func (h hours) size() int {
	n := 0
	for _, in := range h {
		if in {
			n++
		}
	}
	return n
}

// size returns how many places are meant.
func (a *area) size() int {
	n := 0
	for _, row := range a {
		n += row.size()
	}
	return n
}

// chartFor returns the chart of a sky for constellations of it, or the error of one of both.
func chartFor(s api.BorderSky, lands ...int) (chart, api.Errno) {
	if e := CheckSky(s); e != api.OK {
		return chart{}, e
	}
	if !within(0, len(s.Lands)-1, lands...) {
		return chart{}, api.ErrArg
	}
	return newChart(s), api.OK
}

// chartForBox returns the chart of a sky for a constellation and a box of it, or the error of one of these.
func chartForBox(s api.BorderSky, land int, box api.BorderBox) (chart, api.Errno) {
	c, e := chartFor(s, land)
	if e == api.OK && !isBox(s, box) {
		return chart{}, api.ErrRange
	}
	return c, e
}

// newChart returns the chart of a valid sky.
func newChart(s api.BorderSky) chart {
	c := chart{BorderSky: s, areas: make([]area, len(s.Lands))}
	for land, boxes := range s.Lands {
		for _, b := range boxes {
			for p := range c.placesOf(b) {
				c.areas[land].set(p, true)
			}
		}
	}
	return c
}

// places yields the places of the sky, by zones, and then by hours.
func (c chart) places() iter.Seq[place] {
	return c.placesOf(api.BorderBox{From: 0, Wide: c.Hours, Low: 0, High: c.Zones})
}

// placesOf yields the places of a box.
func (c chart) placesOf(b api.BorderBox) iter.Seq[place] {
	return func(yield func(place) bool) {
		for zone := b.Low; zone < b.High; zone++ {
			for i := range b.Wide {
				if !yield(place{(b.From + i) % c.Hours, zone}) {
					return
				}
			}
		}
	}
}

// in yields the places of an area, by zones, and then by hours.
func (c chart) in(a *area) iter.Seq[place] {
	return func(yield func(place) bool) {
		for p := range c.places() {
			if a.has(p) && !yield(p) {
				return
			}
		}
	}
}

// isPlace reports whether the sky has a place.
func (c chart) isPlace(p place) bool {
	return within(0, c.Hours-1, p.hour) && within(0, c.Zones-1, p.zone)
}

// beside yields the places that lie side by side with one, each once.
func (c chart) beside(p place) iter.Seq[place] {
	return func(yield func(place) bool) {
		after, before := (p.hour+1)%c.Hours, (p.hour+c.Hours-1)%c.Hours
		list := [4]place{{after, p.zone}, {before, p.zone}, {p.hour, p.zone - 1}, {p.hour, p.zone + 1}}
		for i, q := range list {
			// With two hours the one behind is the one before, and with one hour it is the same.
			again := q == p || slices.Contains(list[:i], q)
			if !again && c.isPlace(q) && !yield(q) {
				return
			}
		}
	}
}

// landsAt returns the constellations in which a place is, increasing.
func (c chart) landsAt(p place) []int {
	var list []int
	for land := range c.areas {
		if c.areas[land].has(p) {
			list = append(list, land)
		}
	}
	return list
}

// faults returns the places that are not in just one constellation, with how many each of them is in.
func (c chart) faults() map[place]int {
	often := map[place]int{}
	for p := range c.places() {
		often[p] = len(c.landsAt(p))
	}
	for p, n := range often {
		if n == 1 {
			delete(often, p)
		}
	}
	return often
}

// isBox reports whether a box is valid in a sky with valid Hours and Zones.
func isBox(s api.BorderSky, b api.BorderBox) bool {
	return within(0, s.Hours-1, b.From) && within(1, s.Hours, b.Wide) &&
		within(0, s.Zones-1, b.Low) && within(b.Low+1, s.Zones, b.High)
}

// first returns the first element that is good, and whether there is one.
func first[T any](all iter.Seq[T], good func(T) bool) (T, bool) {
	for x := range all {
		if good(x) {
			return x, true
		}
	}
	var none T
	return none, false
}

// within reports whether all numbers are from least to greatest.
func within(least, greatest int, numbers ...int) bool {
	for _, n := range numbers {
		if n < least || n > greatest {
			return false
		}
	}
	return true
}
