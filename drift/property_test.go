package drift_test

import (
	"testing"

	"burin/api"
	"burin/drift"
)

// turned returns the star with all places, and Rate, turned round.
func turned(s api.DriftStar) api.DriftStar {
	s = copyOf(s)
	s.Rate = rg(-s.Rate.Hi, -s.Rate.Lo)
	for i, e := range s.Entries {
		s.Entries[i].At = rg(-e.At.Hi, -e.At.Lo)
	}
	return s
}

// countedBack returns the star with all years counted back from the last one there can be, and Rate turned round.
func countedBack(s api.DriftStar) api.DriftStar {
	out := api.DriftStar{Rate: rg(-s.Rate.Hi, -s.Rate.Lo)}
	for i := len(s.Entries) - 1; i >= 0; i-- {
		e := s.Entries[i]
		out.Entries = append(out.Entries, api.DriftEntry{Year: api.MaxDriftYear - e.Year, At: e.At})
	}
	return out
}

// carried returns the star to which the motion of a place and a rate is added.
func carried(s api.DriftStar, place, rate int64) api.DriftStar {
	s = copyOf(s)
	s.Rate = rg(s.Rate.Lo+rate, s.Rate.Hi+rate)
	for i, e := range s.Entries {
		by := place + rate*e.Year
		s.Entries[i].At = rg(e.At.Lo+by, e.At.Hi+by)
	}
	return s
}

// greater returns the star with places, years and Rate as many times as great.
func greater(s api.DriftStar, places, years, rate int64) api.DriftStar {
	s = copyOf(s)
	s.Rate = rg(s.Rate.Lo*rate, s.Rate.Hi*rate)
	for i, e := range s.Entries {
		s.Entries[i].Year = e.Year * years
		s.Entries[i].At = rg(e.At.Lo*places, e.At.Hi*places)
	}
	return s
}

// agreeing returns the stars with which some motion agrees, of which there have to be some.
func agreeing(t *testing.T, list []api.DriftStar) []api.DriftStar {
	t.Helper()
	var out []api.DriftStar
	for _, s := range list {
		if _, _, e := drift.Rate(s); e == api.OK {
			out = append(out, s)
		}
	}
	if len(out) < len(list)/8 {
		t.Fatal("too few stars that agree:", len(out))
	}
	return out
}

func sameLists(a, b answers) bool {
	if a.fewest != b.fewest || len(a.kinds) != len(b.kinds) {
		return false
	}
	for i := range a.kinds {
		if a.kinds[i] != b.kinds[i] {
			return false
		}
	}
	return true
}

func TestP1_9_Either(t *testing.T) {
	for _, s := range append(stars(19, 600, 10), starS(), starD(), fullStar()) {
		m, e := drift.Motion(s, 0, true)
		low, high, g := drift.Clash(s)
		switch {
		case e == api.OK && g == api.ErrNone:
			if h := drift.CheckMotion(s, m); h != api.OK {
				t.Fatal(s, m, h)
			}
			noClash(t, s)
		case e == api.ErrStar && g == api.OK:
			if h := drift.CheckClash(s, low, high); h != api.OK {
				t.Fatal(s, low, high, h)
			}
			if len(corners(s)) > 0 {
				t.Fatal("a motion agrees:", s, corners(s)[0])
			}
		default:
			t.Fatal(s, e, g)
		}
	}
}

// noClash checks that no two bounds of a star clash.
func noClash(t *testing.T, s api.DriftStar) {
	t.Helper()
	list := [][2]int{{-1, -1}}
	for early := range s.Entries {
		for late := early + 1; late < len(s.Entries); late++ {
			list = append(list, [2]int{early, late})
		}
	}
	for _, low := range list {
		for _, high := range list {
			if e := drift.CheckClash(s, low, high); e != api.ErrSum {
				t.Fatal(s, low, high, e)
			}
		}
	}
}

func TestP1_10_Reached(t *testing.T) {
	d := dice(20)
	for _, s := range agreeing(t, append(stars(21, 300, 8), starS())) {
		year := d.upTo(200)
		lo, hi, _ := drift.Rate(s)
		least, greatest, _ := drift.Place(s, year)
		list := corners(s)
		for _, c := range list {
			// a motion midway to another corner agrees, too
			o := list[d.upTo(int64(len(list)-1))]
			mid := corner{c.place*o.den + o.place*c.den, c.rate*o.den + o.rate*c.den, 2 * c.den * o.den}
			for _, x := range []corner{c, mid} {
				rate, place := f(x.rate, x.den), f(x.place+x.rate*year, x.den)
				if !x.agrees(s) || less(rate, lo) || less(hi, rate) || less(place, least) || less(greatest, place) {
					t.Fatal(s, year, x)
				}
			}
		}
		for k, want := range []api.Ratio{least, greatest} {
			m, e := drift.Motion(s, year, k == 1)
			if g := drift.CheckMotion(s, m); e != api.OK || g != api.OK || inYear(m, year) != want {
				t.Fatal(s, year, m, e, g, want)
			}
		}
		for _, end := range []api.Ratio{lo, hi} {
			if !reachesRate(s, end) {
				t.Fatal(s, "no motion of the rate", end)
			}
		}
	}
}

// reachesRate reports whether a corner of what agrees has the rate.
func reachesRate(s api.DriftStar, rate api.Ratio) bool {
	for _, c := range corners(s) {
		if reduced(c.rate, c.den) == rate {
			return true
		}
	}
	return false
}

// notNarrower reports whether the ends of b contain those of a, wherever a has any.
func notNarrower(a, b answers) bool {
	if a.e != api.OK {
		return true
	}
	if b.e != api.OK || less(a.rate[0], b.rate[0]) || less(b.rate[1], a.rate[1]) {
		return false
	}
	for i, p := range a.places {
		if less(p[0], b.places[i][0]) || less(b.places[i][1], p[1]) {
			return false
		}
	}
	return true
}

func TestP1_11_More(t *testing.T) {
	d := dice(22)
	for _, s := range append(stars(23, 300, 7), starS(), starD()) {
		years := []int64{0, d.upTo(60), 200}
		whole := ask(s, years...)
		for i := range s.Entries {
			if len(s.Entries) > 1 {
				rest := ask(without(s, 1<<i), years...)
				if !notNarrower(whole, rest) || rest.fewest > whole.fewest || rest.fewest < whole.fewest-1 {
					t.Fatal("without", i, s, whole, rest)
				}
			}
			wide := copyOf(s)
			wide.Entries[i].At.Lo -= d.upTo(5)
			wide.Entries[i].At.Hi += d.upTo(5)
			if w := ask(wide, years...); !notNarrower(whole, w) || w.fewest > whole.fewest {
				t.Fatal("wider", i, s, whole, w)
			}
		}
		wide := copyOf(s)
		wide.Rate.Lo -= d.upTo(5)
		wide.Rate.Hi += d.upTo(5)
		if w := ask(wide, years...); !notNarrower(whole, w) || w.fewest > whole.fewest {
			t.Fatal("wider rate", s, whole, w)
		}
	}
}

func TestP1_12_Turned(t *testing.T) {
	d := dice(24)
	for _, s := range append(stars(25, 300, 8), starS(), starD()) {
		year := d.upTo(200)
		a, b, c := ask(s, year), ask(turned(s), year), ask(countedBack(s), 200-year)
		if a.e != b.e || a.e != c.e || a.fewest != b.fewest || a.fewest != c.fewest {
			t.Fatal(s, a, b, c)
		}
		if a.e != api.OK {
			continue
		}
		for k := range 2 {
			if b.rate[k] != times(a.rate[1-k], -1) || b.places[0][k] != times(a.places[0][1-k], -1) {
				t.Fatal("turned round", s, year, a, b)
			}
			if c.rate[k] != times(a.rate[1-k], -1) || c.places[0][k] != a.places[0][k] {
				t.Fatal("counted back", s, year, a, c)
			}
		}
	}
}

func TestP1_13_Carried(t *testing.T) {
	d := dice(26)
	for _, s := range append(stars(27, 300, 8), starS(), starD()) {
		year, place, rate := d.upTo(200), d.from(-30, 30), d.from(-20, 20)
		a, b := ask(s, year), ask(carried(s, place, rate), year)
		if a.e != b.e || !sameLists(a, b) {
			t.Fatal(s, a, b)
		}
		if a.e != api.OK {
			continue
		}
		for k := range 2 {
			if b.rate[k] != plus(a.rate[k], f(rate, 1)) || b.places[0][k] != plus(a.places[0][k], f(place+rate*year, 1)) {
				t.Fatal(s, place, rate, year, a, b)
			}
		}
	}
}

func TestP1_14_Times(t *testing.T) {
	d := dice(28)
	for _, s := range append(stars(29, 300, 8), starS(), starD()) {
		year, k := d.upTo(60), d.from(2, 3)
		if last := s.Entries[len(s.Entries)-1].Year; last*k > api.MaxDriftYear {
			continue
		}
		a, b, c := ask(s, year), ask(greater(s, k, 1, k), year), ask(greater(s, k, k, 1), year*k)
		if a.e != b.e || a.e != c.e || !sameLists(a, b) || !sameLists(a, c) {
			t.Fatal(s, k, a, b, c)
		}
		if a.e != api.OK {
			continue
		}
		for i := range 2 {
			if b.rate[i] != times(a.rate[i], k) || b.places[0][i] != times(a.places[0][i], k) {
				t.Fatal("places", s, k, a, b)
			}
			if c.rate[i] != a.rate[i] || c.places[0][i] != times(a.places[0][i], k) {
				t.Fatal("places and years", s, k, a, c)
			}
		}
	}
}

func TestP1_15_Between(t *testing.T) {
	d := dice(30)
	open := func(s api.DriftStar, year int64) api.Ratio {
		lo, hi, e := drift.Place(s, year)
		if e != api.OK {
			t.Fatal(s, year, e)
		}
		return plus(hi, times(lo, -1))
	}
	for _, s := range agreeing(t, append(stars(31, 600, 8), starS())) {
		from := d.upTo(200)
		to := from + 2*d.upTo((200-from)/2)
		both := plus(open(s, from), open(s, to))
		if mid := open(s, (from+to)/2); less(both, times(mid, 2)) {
			t.Fatal(s, from, to, mid, both)
		}
	}
}
