// Package drift is layer 1: stars that go on by a steady rate, between catalogues of several years (see shared/doc/01-drift.md).
package drift

import "burin/api"

// CheckStar reports whether a star is valid. (P1.1)
func CheckStar(s api.DriftStar) api.Errno {
	if len(s.Entries) < 1 || len(s.Entries) > api.MaxDriftEntries {
		return api.ErrMany
	}
	if !validRange(s.Rate, api.MaxDriftRate) {
		return api.ErrRange
	}
	for _, e := range s.Entries {
		if !within(0, api.MaxDriftYear, e.Year) || !validRange(e.At, api.MaxDriftPlace) {
			return api.ErrRange
		}
	}
	for i := 1; i < len(s.Entries); i++ {
		if s.Entries[i].Year <= s.Entries[i-1].Year {
			return api.ErrRule
		}
	}
	return api.OK
}

// CheckMotion reports whether a motion agrees. (P1.2)
func CheckMotion(s api.DriftStar, m api.DriftMotion) api.Errno {
	if e := CheckStar(s); e != api.OK {
		return e
	}
	if !within(-api.MaxDriftNum, api.MaxDriftNum, m.Place.Num, m.Rate.Num) {
		return api.ErrRange
	}
	if !within(1, api.MaxDriftDen, m.Place.Den, m.Rate.Den) {
		return api.ErrRange
	}
	if !agrees(s, m) {
		return api.ErrStar
	}
	return api.OK
}

// CheckBound returns a bound of the rate. (P1.3)
func CheckBound(s api.DriftStar, high bool, early, late int) (api.Ratio, api.Errno) {
	if e := CheckStar(s); e != api.OK {
		return api.Ratio{}, e
	}
	p := pair{early, late}
	if p != (pair{alone, alone}) && (early < 0 || late >= len(s.Entries) || early >= late) {
		return api.Ratio{}, api.ErrArg
	}
	return boundsBy(s, p)[sideOf(high)], api.OK
}

// Bound returns the entries of the best bound. (P1.3)
func Bound(s api.DriftStar, high bool) (int, int, api.Errno) {
	c, e := agreed(s)
	if e != api.OK {
		return 0, 0, e
	}
	p := c.tightest(sideOf(high))
	return p.early, p.late, api.OK
}

// CheckClash reports whether two bounds clash. (P1.4)
func CheckClash(s api.DriftStar, low, high [2]int) api.Errno {
	least, e := CheckBound(s, false, low[0], low[1])
	if e != api.OK {
		return e
	}
	greatest, e := CheckBound(s, true, high[0], high[1])
	if e != api.OK {
		return e
	}
	if compare(least, greatest) <= 0 {
		return api.ErrSum
	}
	return api.OK
}

// Clash returns two bounds that clash. (P1.4)
func Clash(s api.DriftStar) ([2]int, [2]int, api.Errno) {
	if e := CheckStar(s); e != api.OK {
		return [2]int{}, [2]int{}, e
	}
	c := newCard(s, every)
	if !c.span().clash() {
		return [2]int{}, [2]int{}, api.ErrNone
	}
	low, high := c.tightest(lower), c.tightest(upper)
	return [2]int{low.early, low.late}, [2]int{high.early, high.late}, api.OK
}

// Rate returns the ends of the rate. (P1.5)
func Rate(s api.DriftStar) (api.Ratio, api.Ratio, api.Errno) {
	c, e := agreed(s)
	if e != api.OK {
		return api.Ratio{}, api.Ratio{}, e
	}
	r := c.span()
	return r[lower], r[upper], api.OK
}

// Place returns the ends of the place in a year. (P1.6)
func Place(s api.DriftStar, year int64) (api.Ratio, api.Ratio, api.Errno) {
	least, e := Motion(s, year, false)
	if e != api.OK {
		return api.Ratio{}, api.Ratio{}, e
	}
	greatest, e := Motion(s, year, true)
	if e != api.OK {
		return api.Ratio{}, api.Ratio{}, e
	}
	return placeIn(least, year), placeIn(greatest, year), api.OK
}

// Motion returns a motion that reaches an end. (P1.6)
func Motion(s api.DriftStar, year int64, high bool) (api.DriftMotion, api.Errno) {
	if e := CheckStar(s); e != api.OK {
		return api.DriftMotion{}, e
	}
	if !within(0, api.MaxDriftYear, year) {
		return api.DriftMotion{}, api.ErrArg
	}
	c, e := agreed(s)
	if e != api.OK {
		return api.DriftMotion{}, e
	}
	return c.farthest(year, sideOf(high)), api.OK
}

// Fewest returns how many entries are left out at least. (P1.7)
func Fewest(s api.DriftStar) (int, api.Errno) {
	if e := CheckStar(s); e != api.OK {
		return 0, e
	}
	return len(bestLists(s)[0]), api.OK
}

// CheckLeft reports whether some motion agrees without entries. (P1.7)
func CheckLeft(s api.DriftStar, left []int) api.Errno {
	if e := CheckStar(s); e != api.OK {
		return e
	}
	before := -1
	for _, entry := range left {
		if entry <= before || entry >= len(s.Entries) {
			return api.ErrArg
		}
		before = entry
	}
	out := make(marks, len(s.Entries))
	out.set(left)
	if newCard(s, out.free).span().clash() {
		return api.ErrStar
	}
	return api.OK
}

// Left returns a best list. (P1.7)
func Left(s api.DriftStar) ([]int, api.Errno) {
	if e := CheckStar(s); e != api.OK {
		return nil, e
	}
	return bestLists(s)[0], api.OK
}

// Kind returns whether an entry is left out. (P1.8)
func Kind(s api.DriftStar, entry int) (int, api.Errno) {
	if e := CheckStar(s); e != api.OK {
		return 0, e
	}
	if entry < 0 || entry >= len(s.Entries) {
		return 0, api.ErrArg
	}
	lists := bestLists(s)
	in := 0
	out := make(marks, len(s.Entries))
	for _, list := range lists {
		out.set(list)
		if !out.free(entry) {
			in++
		}
	}
	switch in {
	case 0:
		return api.DriftNever, api.OK
	case len(lists):
		return api.DriftAlways, api.OK
	}
	return api.DriftMay, api.OK
}

// within reports whether all numbers are from least to greatest.
func within(least, greatest int64, numbers ...int64) bool {
	for _, n := range numbers {
		if n < least || n > greatest {
			return false
		}
	}
	return true
}

// validRange reports whether a range is valid, with ends from -most to most.
func validRange(r api.Range, most int64) bool {
	return r.Lo <= r.Hi && within(-most, most, r.Lo, r.Hi)
}
