package border

import "burin/api"

// runs returns the runs of an area, in new memory.
func (c chart) runs(a *area) []api.BorderBox {
	var list []api.BorderBox
	for zone, row := range a {
		if row == (hours{}) {
			continue
		}
		list = append(list[:len(list):len(list)], c.rowRuns(row, zone)...)
	}
	out := make([]api.BorderBox, len(list))
	copy(out, list)
	return out
}

// rowRuns returns the runs of a zone of which some hours are meant.
func (c chart) rowRuns(row hours, zone int) []api.BorderBox {
	run := api.BorderBox{From: 0, Wide: c.Hours, Low: zone, High: zone + 1}
	if row.size() == c.Hours {
		return []api.BorderBox{run}
	}
	var list []api.BorderBox
	for from := range c.Hours {
		if !row[from] || row[(from+c.Hours-1)%c.Hours] {
			continue
		}
		run.From, run.Wide = from, 1
		for row[(from+run.Wide)%c.Hours] { // not all hours are meant, so that this ends
			run.Wide++
		}
		list = append(list, run)
	}
	return list
}

// give makes the places of a box those of a constellation, and of no other one.
func (c chart) give(land int, box api.BorderBox) {
	for p := range c.placesOf(box) {
		for other := range c.areas {
			c.areas[other].set(p, other == land)
		}
	}
}

// sky returns the sky whose constellations are given by their runs, in new memory.
func (c chart) sky() api.BorderSky {
	s := api.BorderSky{Hours: c.Hours, Zones: c.Zones, Lands: make([][]api.BorderBox, len(c.areas))}
	for land := range c.areas {
		s.Lands[land] = c.runs(&c.areas[land])
	}
	return s
}
