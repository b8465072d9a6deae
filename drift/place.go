package drift

import (
	"iter"

	"burin/api"
)

// placeIn returns the place of a motion in a year.
func placeIn(m api.DriftMotion, year int64) api.Ratio {
	return plus(m.Place, m.Rate, year)
}

// agrees reports whether a motion whose fractions are within their limits agrees with a star.
func agrees(s api.DriftStar, m api.DriftMotion) bool {
	if !contains(s.Rate, m.Rate) {
		return false
	}
	for _, e := range s.Entries {
		if !contains(e.At, placeIn(m, e.Year)) {
			return false
		}
	}
	return true
}

// contains reports whether a fraction is between the ends of a range.
func contains(r api.Range, x api.Ratio) bool {
	return compare(whole(r.Lo), x) <= 0 && compare(x, whole(r.Hi)) <= 0
}

// farthest returns a motion that agrees and is farthest to a side in a year.
func (c card) farthest(year int64, side int) api.DriftMotion {
	return best(c.corners(side), func(m, n api.DriftMotion) bool {
		// What is farther to a side would be less tight there as a bound.
		return tighter(side, placeIn(n, year), placeIn(m, year))
	})
}

// corners yields motions that agree, one of which is farthest to a side, whichever the year.
// Between two rates at which the same entry holds the motion back its place goes on evenly, so that only their ends count.
func (c card) corners(side int) iter.Seq[api.DriftMotion] {
	span := c.span()
	return func(yield func(api.DriftMotion) bool) {
		for _, rate := range span {
			if !yield(c.outermost(rate, side)) {
				return
			}
		}
		for p := range pairs(len(c.Entries), every) {
			if p.early == alone {
				continue
			}
			rate := c.crossing(p, side)
			if compare(span[lower], rate) < 0 && compare(rate, span[upper]) < 0 && !yield(c.outermost(rate, side)) {
				return
			}
		}
	}
}

// crossing returns the rate at which a motion comes from the end of one entry to that of the other one.
func (c card) crossing(p pair, side int) api.Ratio {
	way := endsOf(c.DriftStar, p.late)[side] - endsOf(c.DriftStar, p.early)[side]
	return fraction(way, c.Entries[p.late].Year-c.Entries[p.early].Year)
}

// outermost returns the motion of a rate that agrees and is farthest to a side.
func (c card) outermost(rate api.Ratio, side int) api.DriftMotion {
	starts := func(yield func(api.Ratio) bool) {
		for i, e := range c.Entries {
			if !yield(plus(whole(endsOf(c.DriftStar, i)[side]), rate, -e.Year)) {
				return
			}
		}
	}
	place := best(starts, func(a, b api.Ratio) bool { return tighter(side, a, b) })
	return api.DriftMotion{Place: place, Rate: rate}
}
