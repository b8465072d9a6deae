package drift_test

import (
	"slices"

	"burin/api"
	"burin/drift"
)

// f is a fraction, rg a range, star a star with three numbers for each entry, motion a motion.
func f(num, den int64) api.Ratio { return api.Ratio{Num: num, Den: den} }
func rg(lo, hi int64) api.Range  { return api.Range{Lo: lo, Hi: hi} }
func star(rate api.Range, x ...int64) api.DriftStar {
	out := api.DriftStar{Rate: rate}
	for i := 0; i < len(x); i += 3 {
		out.Entries = append(out.Entries, api.DriftEntry{Year: x[i], At: rg(x[i+1], x[i+2])})
	}
	return out
}
func motion(a, b, c, d int64) api.DriftMotion { return api.DriftMotion{Place: f(a, b), Rate: f(c, d)} }

// starS and starD are the stars of the chapter's examples.
func starS() api.DriftStar {
	return star(rg(-10, 10), 0, 100, 104, 10, 120, 126, 30, 150, 156)
}
func starD() api.DriftStar {
	return star(rg(-10, 10), 0, 100, 104, 10, 120, 126, 20, 130, 131, 30, 150, 156)
}

// fullStar is valid, with each number at a limit.
func fullStar() api.DriftStar {
	s := api.DriftStar{Rate: rg(-500, 500)}
	for i := range int64(api.MaxDriftEntries) {
		year := i
		if i == api.MaxDriftEntries-1 {
			year = api.MaxDriftYear
		}
		s.Entries = append(s.Entries, api.DriftEntry{Year: year, At: rg(-10000, 10000)})
	}
	return s
}

func copyOf(s api.DriftStar) api.DriftStar {
	s.Entries = slices.Clone(s.Entries)
	return s
}

// without returns the star without the entries of a mask.
func without(s api.DriftStar, mask int) api.DriftStar {
	out := api.DriftStar{Rate: s.Rate}
	for i, e := range s.Entries {
		if mask>>i&1 == 0 {
			out.Entries = append(out.Entries, e)
		}
	}
	return out
}

// dice is a generator of numbers that are the same in each run.
type dice uint64

func (d *dice) upTo(n int64) int64 {
	*d = *d*6364136223846793005 + 1442695040888963407
	return int64(uint64(*d)>>33) % (n + 1)
}

func (d *dice) from(a, b int64) int64 { return a + d.upTo(b-a) }

// star throws a valid star of some entries, up to most.
// A calm one goes by a motion, of a rate that may be wrong; others have entries beside it, a few or, of a wild one, many.
func (d *dice) star(most int64) api.DriftStar {
	lo := d.from(-8, 4)
	s := api.DriftStar{Rate: rg(lo, lo+d.upTo(8))}
	year, at, rate, wide := d.upTo(6), d.from(-50, 50), d.from(-5, 5), d.upTo(12)
	calm, wild := d.upTo(1) == 0, d.upTo(3) == 0
	for range d.from(1, most) {
		mid := at + rate*year
		if !calm && (wild || d.upTo(5) == 0) {
			mid += d.from(-20, 20)
		}
		s.Entries = append(s.Entries, api.DriftEntry{Year: year, At: rg(mid-d.upTo(wide), mid+d.upTo(wide))})
		year += d.from(1, 9)
	}
	return s
}

// stars throws a number of stars.
func stars(seed dice, n int, most int64) []api.DriftStar {
	var out []api.DriftStar
	for range n {
		out = append(out, seed.star(most))
	}
	return out
}

// corner is a motion: place and rate by the same den.
type corner struct{ place, rate, den int64 }

func (c corner) motion() api.DriftMotion { return motion(c.place, c.den, c.rate, c.den) }

// agrees is the chapter's definition, in whole numbers.
func (c corner) agrees(s api.DriftStar) bool {
	if c.rate < s.Rate.Lo*c.den || c.rate > s.Rate.Hi*c.den {
		return false
	}
	for _, e := range s.Entries {
		if p := c.place + c.rate*e.Year; p < e.At.Lo*c.den || p > e.At.Hi*c.den {
			return false
		}
	}
	return true
}

// corners returns the corners of the area of all motions that agree: where two of its lines meet.
// It knows nothing of bounds by pairs, and is there to check what package drift finds by them.
func corners(s api.DriftStar) []corner {
	var out []corner
	add := func(c corner) {
		if c.agrees(s) {
			out = append(out, c)
		}
	}
	for i, a := range s.Entries {
		for _, p := range []int64{a.At.Lo, a.At.Hi} {
			for _, r := range []int64{s.Rate.Lo, s.Rate.Hi} {
				add(corner{p - r*a.Year, r, 1})
			}
			for _, b := range s.Entries[i+1:] {
				for _, q := range []int64{b.At.Lo, b.At.Hi} {
					years := b.Year - a.Year
					add(corner{p*years - (q-p)*a.Year, q - p, years})
				}
			}
		}
	}
	return out
}

// reduced returns a fraction in least terms.
func reduced(num, den int64) api.Ratio {
	for d := den; d > 1; d-- {
		if num%d == 0 && den%d == 0 {
			return f(num/d, den/d)
		}
	}
	return f(num, den)
}

// less, times and plus reckon with small fractions.
func less(a, b api.Ratio) bool             { return a.Num*b.Den < b.Num*a.Den }
func times(a api.Ratio, k int64) api.Ratio { return reduced(a.Num*k, a.Den) }
func plus(a, b api.Ratio) api.Ratio        { return reduced(a.Num*b.Den+b.Num*a.Den, a.Den*b.Den) }

// endsBy returns the ends of what the corners say.
func endsBy(list []corner, number func(corner) int64) [2]api.Ratio {
	var out [2]api.Ratio
	for i, c := range list {
		x := reduced(number(c), c.den)
		if i == 0 || less(x, out[0]) {
			out[0] = x
		}
		if i == 0 || less(out[1], x) {
			out[1] = x
		}
	}
	return out
}

// inYear returns the place of a motion in a year.
func inYear(m api.DriftMotion, year int64) api.Ratio { return plus(m.Place, times(m.Rate, year)) }

// bestMasks returns the masks of all best lists.
func bestMasks(s api.DriftStar) []int {
	for n := 0; ; n++ {
		var out []int
		for mask := range 1 << len(s.Entries) {
			if ones(mask) != n {
				continue
			}
			rest := without(s, mask)
			if len(rest.Entries) == 0 || len(corners(rest)) > 0 {
				out = append(out, mask)
			}
		}
		if len(out) > 0 {
			return out
		}
	}
}

func ones(mask int) int {
	n := 0
	for ; mask > 0; mask >>= 1 {
		n += mask & 1
	}
	return n
}

// listOf returns the entries of a mask.
func listOf(mask int) []int {
	var out []int
	for i := range 31 {
		if mask>>i&1 == 1 {
			out = append(out, i)
		}
	}
	return out
}

// answers are what a star is asked that does not depend on which of several motions or lists is returned.
type answers struct {
	rate   [2]api.Ratio
	places [][2]api.Ratio
	fewest int
	kinds  []int
	e      api.Errno // of Rate
}

// ask asks a star for its rate, its places in some years, and what is left out.
func ask(s api.DriftStar, years ...int64) answers {
	var a answers
	a.rate[0], a.rate[1], a.e = drift.Rate(s)
	for _, year := range years {
		lo, hi, _ := drift.Place(s, year)
		a.places = append(a.places, [2]api.Ratio{lo, hi})
	}
	a.fewest, _ = drift.Fewest(s)
	for i := range s.Entries {
		k, _ := drift.Kind(s, i)
		a.kinds = append(a.kinds, k)
	}
	return a
}
