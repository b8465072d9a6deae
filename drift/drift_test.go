package drift_test

import (
	"math"
	"slices"
	"testing"

	"burin/api"
	"burin/drift"
)

// extremes are numbers of which no one is one of a valid star, an entry or a year.
var extremes = []int64{math.MinInt64, math.MinInt64 + 1, -1 << 40, 1 << 40, math.MaxInt64 - 1, math.MaxInt64}

// firstErrors calls each function with arguments that are wrong in other ways, too, and returns the errors.
// It reports other results that are not zero.
func firstErrors(t *testing.T, s api.DriftStar) []api.Errno {
	t.Helper()
	var zero api.Ratio
	list := []api.Errno{drift.CheckStar(s), drift.CheckMotion(s, motion(0, 0, 0, 0))}
	list = append(list, drift.CheckClash(s, [2]int{1, 0}, [2]int{1, 0}), drift.CheckLeft(s, []int{99, -1}))
	b, e := drift.CheckBound(s, true, 5, 2)
	list = append(list, e)
	early, late, e := drift.Bound(s, false)
	list = append(list, e)
	low, high, e := drift.Clash(s)
	list = append(list, e)
	least, greatest, e := drift.Rate(s)
	list = append(list, e)
	lo, hi, e := drift.Place(s, -1)
	list = append(list, e)
	m, e := drift.Motion(s, 201, true)
	list = append(list, e)
	n, e := drift.Fewest(s)
	list = append(list, e)
	l, e := drift.Left(s)
	list = append(list, e)
	k, e := drift.Kind(s, -1)
	list = append(list, e)
	if b != zero || early != 0 || late != 0 || low != [2]int{} || high != [2]int{} {
		t.Error("a bound with an error:", s, b, early, late, low, high)
	}
	if least != zero || greatest != zero || lo != zero || hi != zero || m != (api.DriftMotion{}) {
		t.Error("an end with an error:", s, least, greatest, lo, hi, m)
	}
	if n != 0 || len(l) != 0 || k != 0 {
		t.Error("a list with an error:", s, n, l, k)
	}
	return list
}

func TestP1_1_CheckStar(t *testing.T) {
	many := copyOf(fullStar())
	many.Entries = append(many.Entries, api.DriftEntry{Year: 200})
	for i, x := range []struct {
		s api.DriftStar
		e api.Errno
	}{
		{starS(), api.OK},
		{starD(), api.OK},
		{fullStar(), api.OK},
		{star(rg(-500, -500), 0, -10000, -10000), api.OK},
		{star(rg(500, 500), 200, 10000, 10000), api.OK},
		{star(rg(0, 0), 7, 5, 5), api.OK},
		{api.DriftStar{}, api.ErrMany},
		{api.DriftStar{Entries: []api.DriftEntry{}}, api.ErrMany},
		{many, api.ErrMany},
		{star(rg(1, 0), 0, 0, 0), api.ErrRange},
		{star(rg(-501, 0), 0, 0, 0), api.ErrRange},
		{star(rg(0, 501), 0, 0, 0), api.ErrRange},
		{star(rg(501, 502), 0, 0, 0), api.ErrRange},
		{star(rg(0, 0), -1, 0, 0), api.ErrRange},
		{star(rg(0, 0), 201, 0, 0), api.ErrRange},
		{star(rg(0, 0), 0, 1, 0), api.ErrRange},
		{star(rg(0, 0), 0, -10001, 0), api.ErrRange},
		{star(rg(0, 0), 0, 0, 10001), api.ErrRange},
		{star(rg(0, 0), 0, -10002, -10001), api.ErrRange},
		{star(rg(0, 0), 0, 0, 0, 1, 0, 0, 2, 3, 2), api.ErrRange},
		{star(rg(0, 0), 5, 0, 0, 5, 0, 0), api.ErrRule},
		{star(rg(0, 0), 5, 0, 0, 4, 0, 0), api.ErrRule},
		{star(rg(0, 0), 5, 0, 0, 6, 0, 0, 6, 0, 0), api.ErrRule},
		{star(rg(0, 0), 5, 0, 0, 7, 0, 0, 6, 0, 0), api.ErrRule},
		// R1: all entries are looked at for one error before any of them is for the next one
		{star(rg(0, 0), 5, 0, 0, 5, 0, 0, 201, 0, 0), api.ErrRange},
		{star(rg(0, 0), 5, 0, 0, 4, 0, 0, 9, 1, 0), api.ErrRange},
		{star(rg(1, 0), 5, 0, 0, 5, 0, 0), api.ErrRange},
		{star(rg(1, 0)), api.ErrMany},
		{api.DriftStar{Rate: rg(1, 0), Entries: make([]api.DriftEntry, 13)}, api.ErrMany},
	} {
		if e := drift.CheckStar(x.s); e != x.e {
			t.Error(i, e, "not", x.e)
		}
		if x.e == api.OK {
			continue
		}
		for k, e := range firstErrors(t, x.s) {
			if e != x.e {
				t.Error(i, "function", k, e, "not", x.e)
			}
		}
	}
}

func TestP1_1_Extremes(t *testing.T) {
	for _, x := range extremes {
		for i, s := range []api.DriftStar{
			star(rg(x, 0), 0, 0, 0), star(rg(0, x), 0, 0, 0), star(rg(x, x), 0, 0, 0),
			star(rg(0, 0), x, 0, 0), star(rg(0, 0), 0, x, 0), star(rg(0, 0), 0, 0, x), star(rg(0, 0), 0, x, x),
		} {
			if e := drift.CheckStar(s); e != api.ErrRange {
				t.Error(x, i, e)
			}
		}
	}
}

func TestP1_2_CheckMotion(t *testing.T) {
	one := star(rg(-2, 3), 50, 10, 20)
	for i, x := range []struct {
		s api.DriftStar
		m api.DriftMotion
		e api.Errno
	}{
		{starS(), motion(104, 1, 8, 5), api.OK},
		{starS(), motion(103, 1, 17, 10), api.OK},
		{starS(), motion(1040, 10, 24, 15), api.OK},                // not in least terms
		{starS(), motion(104*384, 384, 8*8000, 5*8000), api.OK},    // a Den at its limit
		{starS(), motion(103*40000, 40000, 17*40, 400), api.OK},    // the other one
		{starS(), motion(104*40000+1, 40000, 8, 5), api.ErrStar},   // a little beyond an end
		{starS(), motion(102*40000-1, 40000, 9, 5), api.ErrStar},   // and on the other side
		{starS(), motion(102, 1, 9, 5), api.OK},                    // just at that end
		{starS(), motion(104, 1, 3, 2), api.ErrStar},               // not at the entry of year 10
		{starS(), motion(105, 1, 8, 5), api.ErrStar},               // nor of year 0
		{starS(), motion(102, 1, 2, 1), api.ErrStar},               // nor of year 30
		{one, motion(-135, 1, 3, 1), api.OK},                       // a Rate at its end
		{one, motion(-185, 1, 4, 1), api.ErrStar},                  // beyond it
		{one, motion(-271, 2, 301, 100), api.ErrStar},              // a little
		{one, motion(115, 1, -2, 1), api.OK},                       // the other end
		{one, motion(165, 1, -3, 1), api.ErrStar},                  // beyond that
		{one, motion(231, 2, -201, 100), api.ErrStar},              // a little
		{starS(), motion(104, 0, 8, 5), api.ErrRange},              // Den
		{starS(), motion(104, 1, 8, 0), api.ErrRange},              //
		{starS(), motion(-104, -1, 8, 5), api.ErrRange},            //
		{starS(), motion(104, 1, -8, -5), api.ErrRange},            //
		{starS(), motion(104, 40001, 8, 5), api.ErrRange},          //
		{starS(), motion(104, 1, 8, 40001), api.ErrRange},          //
		{starS(), motion(1<<33, 1, 8, 5), api.ErrStar},             // Num at its limit
		{starS(), motion(-1<<33, 1, 8, 5), api.ErrStar},            //
		{starS(), motion(104, 1, 1<<33, 5), api.ErrStar},           //
		{starS(), motion(104, 1, -1<<33, 5), api.ErrStar},          //
		{starS(), motion(1<<33+1, 1, 8, 5), api.ErrRange},          // and above it
		{starS(), motion(-1<<33-1, 1, 8, 5), api.ErrRange},         //
		{starS(), motion(104, 1, 1<<33+1, 5), api.ErrRange},        //
		{starS(), motion(104, 1, -1<<33-1, 5), api.ErrRange},       //
		{starS(), motion(1<<33, 40000, 1<<33, 40000), api.ErrStar}, // the greatest sums there are
		{starS(), motion(-1<<33, 40000, -1<<33, 40000), api.ErrStar},
		{star(rg(-500, 500), 200, -7375, 10000), motion(-1<<32, 40000, 20000000, 40000), api.OK}, // at -7374.1824
		{star(rg(-500, 500), 200, -7374, 10000), motion(-1<<32, 40000, 20000000, 40000), api.ErrStar},
	} {
		if e := drift.CheckMotion(x.s, x.m); e != x.e {
			t.Error(i, x.m, e, "not", x.e)
		}
	}
}

func TestP1_2_Extremes(t *testing.T) {
	for _, x := range extremes {
		for i, m := range []api.DriftMotion{motion(x, 1, 8, 5), motion(104, x, 8, 5), motion(104, 1, x, 5), motion(104, 1, 8, x)} {
			if e := drift.CheckMotion(starS(), m); e != api.ErrRange {
				t.Error(x, i, e)
			}
		}
	}
}

func TestP1_2_Corners(t *testing.T) {
	for _, s := range stars(2, 300, 6) {
		for _, c := range corners(s) {
			for _, m := range []corner{c, {c.place + 1, c.rate, c.den}, {c.place - 1, c.rate, c.den}, {c.place, c.rate + 1, c.den}, {c.place, c.rate - 1, c.den}} {
				want := api.ErrStar
				if m.agrees(s) {
					want = api.OK
				}
				if e := drift.CheckMotion(s, m.motion()); e != want {
					t.Fatal(s, m, e, "not", want)
				}
			}
		}
	}
}

func TestP1_3_CheckBound(t *testing.T) {
	for i, x := range []struct {
		high        bool
		early, late int
		b           api.Ratio
		e           api.Errno
	}{
		{true, 0, 1, f(13, 5), api.OK},
		{false, 0, 1, f(8, 5), api.OK},
		{true, 0, 2, f(28, 15), api.OK},
		{false, 0, 2, f(23, 15), api.OK},
		{true, 1, 2, f(9, 5), api.OK},
		{false, 1, 2, f(6, 5), api.OK},
		{true, -1, -1, f(10, 1), api.OK},
		{false, -1, -1, f(-10, 1), api.OK},
		{true, 1, 0, f(0, 0), api.ErrArg},
		{true, 0, 0, f(0, 0), api.ErrArg},
		{true, -1, 0, f(0, 0), api.ErrArg},
		{true, 2, -1, f(0, 0), api.ErrArg},
		{true, 2, 3, f(0, 0), api.ErrArg},
		{true, -2, 1, f(0, 0), api.ErrArg},
		{true, -2, -2, f(0, 0), api.ErrArg},
		{true, -2, -1, f(0, 0), api.ErrArg},
		{true, 3, 4, f(0, 0), api.ErrArg},
		{true, math.MinInt, math.MaxInt, f(0, 0), api.ErrArg},
		{true, math.MaxInt, math.MinInt, f(0, 0), api.ErrArg},
	} {
		if b, e := drift.CheckBound(starS(), x.high, x.early, x.late); b != x.b || e != x.e {
			t.Error(i, b, e)
		}
	}
	far := star(rg(-500, 500), 0, -10000, -9999, 1, 9999, 10000, 200, 10000, 10000)
	same := star(rg(-500, 500), 0, 4, 10, 9, 4, 10, 10, 7, 7, 20, 7, 7)
	for i, x := range []struct {
		s           api.DriftStar
		early, late int
		low, high   api.Ratio
	}{
		{far, 0, 1, f(19998, 1), f(20000, 1)},
		{far, 0, 2, f(19999, 200), f(100, 1)},
		{far, 1, 2, f(0, 1), f(1, 199)},
		{same, 0, 1, f(-2, 3), f(2, 3)},
		{same, 2, 3, f(0, 1), f(0, 1)},
		{same, 0, 2, f(-3, 10), f(3, 10)},
	} {
		low, e := drift.CheckBound(x.s, false, x.early, x.late)
		high, g := drift.CheckBound(x.s, true, x.early, x.late)
		if low != x.low || high != x.high || e != api.OK || g != api.OK {
			t.Error(i, low, high, e, g)
		}
	}
}

func TestP1_3_Bound(t *testing.T) {
	for _, s := range append(stars(3, 600, 8), starS(), fullStar()) {
		list := corners(s)
		ends := endsBy(list, func(c corner) int64 { return c.rate })
		for k, high := range []bool{false, true} {
			early, late, e := drift.Bound(s, high)
			if len(list) == 0 {
				if early != 0 || late != 0 || e != api.ErrStar {
					t.Fatal(s, early, late, e)
				}
				continue
			}
			if b, g := drift.CheckBound(s, high, early, late); e != api.OK || g != api.OK || b != ends[k] {
				t.Fatal(s, high, early, late, e, b, g)
			}
		}
	}
}

func TestP1_4_CheckClash(t *testing.T) {
	slow := star(rg(-1, 1), 0, 0, 0, 10, 11, 40)
	for i, x := range []struct {
		s         api.DriftStar
		low, high [2]int
		e         api.Errno
	}{
		{starD(), [2]int{2, 3}, [2]int{1, 2}, api.OK},
		{starD(), [2]int{0, 1}, [2]int{1, 2}, api.OK},
		{slow, [2]int{0, 1}, [2]int{-1, -1}, api.OK},
		{slow, [2]int{-1, -1}, [2]int{0, 1}, api.ErrSum},
		{slow, [2]int{-1, -1}, [2]int{-1, -1}, api.ErrSum},
		{starD(), [2]int{0, 1}, [2]int{0, 3}, api.ErrSum},
		{starD(), [2]int{1, 2}, [2]int{2, 3}, api.ErrSum},
		{star(rg(2, 9), 0, 0, 0, 1, 2, 2), [2]int{-1, -1}, [2]int{0, 1}, api.ErrSum}, // equal ones do not clash
		{star(rg(3, 9), 0, 0, 0, 1, 2, 2), [2]int{-1, -1}, [2]int{0, 1}, api.OK},
		{starD(), [2]int{3, 2}, [2]int{1, 2}, api.ErrArg},
		{starD(), [2]int{2, 3}, [2]int{1, 1}, api.ErrArg},
		{starD(), [2]int{2, 4}, [2]int{1, 2}, api.ErrArg},
		{starD(), [2]int{2, 3}, [2]int{-1, 2}, api.ErrArg},
		{starS(), [2]int{0, 1}, [2]int{2, 1}, api.ErrArg}, // named before ErrSum
		{starS(), [2]int{-2, -2}, [2]int{0, 1}, api.ErrArg},
	} {
		if e := drift.CheckClash(x.s, x.low, x.high); e != x.e {
			t.Error(i, e, "not", x.e)
		}
	}
}

func TestP1_4_Clash(t *testing.T) {
	none := 0
	for _, s := range append(stars(4, 600, 8), starS(), starD(), star(rg(-1, 1), 0, 0, 0, 10, 11, 40)) {
		low, high, e := drift.Clash(s)
		if len(corners(s)) > 0 {
			if low != [2]int{} || high != [2]int{} || e != api.ErrNone {
				t.Fatal(s, low, high, e)
			}
			continue
		}
		none++
		if g := drift.CheckClash(s, low, high); e != api.OK || g != api.OK {
			t.Fatal(s, low, high, e, g)
		}
	}
	if none < 100 {
		t.Error("too few stars that clash:", none)
	}
}

func TestP1_5_Rate(t *testing.T) {
	agree := 0
	for _, s := range append(stars(5, 900, 12), starS(), starD(), fullStar()) {
		list := corners(s)
		want, errno := endsBy(list, func(c corner) int64 { return c.rate }), api.OK
		if len(list) == 0 {
			errno = api.ErrStar
		} else {
			agree++
		}
		if lo, hi, e := drift.Rate(s); lo != want[0] || hi != want[1] || e != errno {
			t.Fatal(s, lo, hi, e, "not", want, errno)
		}
	}
	if agree < 200 {
		t.Error("too few stars that agree:", agree)
	}
}

func TestP1_6_PlaceMotion(t *testing.T) {
	d := dice(6)
	for _, s := range append(stars(7, 900, 12), starS(), starD(), fullStar()) {
		list := corners(s)
		for _, year := range []int64{0, 1, d.upTo(50), d.upTo(199), 200} {
			want, errno := endsBy(list, func(c corner) int64 { return c.place + c.rate*year }), api.OK
			if len(list) == 0 {
				errno = api.ErrStar
			}
			if lo, hi, e := drift.Place(s, year); lo != want[0] || hi != want[1] || e != errno {
				t.Fatal(s, year, lo, hi, e, "not", want, errno)
			}
			for k, high := range []bool{false, true} {
				m, e := drift.Motion(s, year, high)
				if e != errno || e != api.OK && m != (api.DriftMotion{}) {
					t.Fatal(s, year, high, m, e)
				}
				if e != api.OK {
					continue
				}
				if g := drift.CheckMotion(s, m); g != api.OK || inYear(m, year) != want[k] {
					t.Fatal(s, year, high, m, g, inYear(m, year), want[k])
				}
				if reduced(m.Place.Num, m.Place.Den) != m.Place || reduced(m.Rate.Num, m.Rate.Den) != m.Rate {
					t.Fatal("not in least terms:", s, m)
				}
			}
		}
	}
}

func TestP1_6_Errors(t *testing.T) {
	for _, s := range []api.DriftStar{starS(), starD()} {
		for _, year := range append([]int64{-1, 201}, extremes...) { // ErrArg is named before ErrStar
			lo, hi, e := drift.Place(s, year)
			if lo != f(0, 0) || hi != f(0, 0) || e != api.ErrArg {
				t.Error(year, lo, hi, e)
			}
			for _, high := range []bool{false, true} {
				if m, e := drift.Motion(s, year, high); m != (api.DriftMotion{}) || e != api.ErrArg {
					t.Error(year, high, m, e)
				}
			}
		}
	}
	for _, year := range []int64{0, 20, 200} {
		if _, _, e := drift.Place(starS(), year); e != api.OK {
			t.Error(year, e)
		}
		if _, _, e := drift.Place(starD(), year); e != api.ErrStar {
			t.Error(year, e)
		}
	}
}

func TestP1_7_FewestLeft(t *testing.T) {
	for _, s := range append(stars(8, 300, 7), starS(), starD(), star(rg(0, 0), 0, 0, 1, 10, 2, 3, 20, 4, 5)) {
		want := bestMasks(s)
		if n, e := drift.Fewest(s); n != ones(want[0]) || e != api.OK {
			t.Fatal(s, n, e, "not", ones(want[0]))
		}
		l, e := drift.Left(s)
		mask := 0
		for _, entry := range l {
			mask |= 1 << entry
		}
		if e != api.OK || !slices.Contains(want, mask) || !slices.Equal(l, listOf(mask)) {
			t.Fatal(s, l, e)
		}
		if g := drift.CheckLeft(s, l); g != api.OK {
			t.Fatal(s, l, g)
		}
	}
}

func TestP1_7_CheckLeft(t *testing.T) {
	for i, x := range []struct {
		s    api.DriftStar
		left []int
		e    api.Errno
	}{
		{starS(), nil, api.OK},
		{starS(), []int{}, api.OK},
		{starS(), []int{0, 1, 2}, api.OK}, // with no entries at all some motion agrees
		{starD(), []int{2}, api.OK},
		{starD(), []int{0, 2}, api.OK},
		{starD(), []int{0, 1, 2, 3}, api.OK},
		{starD(), nil, api.ErrStar},
		{starD(), []int{1}, api.ErrStar},
		{starD(), []int{3}, api.ErrStar},
		{starD(), []int{4}, api.ErrArg},
		{starD(), []int{-1}, api.ErrArg},
		{starD(), []int{2, 2}, api.ErrArg},
		{starD(), []int{2, 0}, api.ErrArg},
		{starD(), []int{0, 1, 2, 3, 4}, api.ErrArg},
		{starD(), []int{0, math.MinInt}, api.ErrArg},
		{starD(), []int{math.MaxInt}, api.ErrArg},
		{starD(), make([]int, 1000), api.ErrArg},
		{fullStar(), []int{0, 1, 2, 3, 4, 5, 6, 7, 8, 9, 10, 11}, api.OK},
		{fullStar(), []int{12}, api.ErrArg},
	} {
		if e := drift.CheckLeft(x.s, x.left); e != x.e {
			t.Error(i, e, "not", x.e)
		}
	}
	for _, s := range stars(9, 100, 6) {
		for mask := range 1 << len(s.Entries) {
			want := api.OK
			if rest := without(s, mask); len(rest.Entries) > 0 && len(corners(rest)) == 0 {
				want = api.ErrStar
			}
			if e := drift.CheckLeft(s, listOf(mask)); e != want {
				t.Fatal(s, listOf(mask), e, "not", want)
			}
		}
	}
}

func TestP1_8_Kind(t *testing.T) {
	var seen [3]int
	for _, s := range append(stars(10, 300, 7), starS(), starD(), star(rg(0, 0), 0, 0, 1, 10, 2, 3, 20, 4, 5)) {
		masks := bestMasks(s)
		for i := range s.Entries {
			in := 0
			for _, mask := range masks {
				in += mask >> i & 1
			}
			want := api.DriftMay
			if in == 0 {
				want = api.DriftNever
			} else if in == len(masks) {
				want = api.DriftAlways
			}
			seen[want]++
			if k, e := drift.Kind(s, i); k != want || e != api.OK {
				t.Fatal(s, i, k, e, "not", want)
			}
		}
		for _, i := range []int{-1, len(s.Entries), math.MinInt, math.MaxInt} {
			if k, e := drift.Kind(s, i); k != 0 || e != api.ErrArg {
				t.Fatal(s, i, k, e)
			}
		}
	}
	if min(seen[0], seen[1], seen[2]) < 20 {
		t.Error("too few of a kind:", seen)
	}
}

func TestExamples(t *testing.T) {
	s, d := starS(), starD()
	bound := func(high bool, early, late int, want api.Ratio, errno api.Errno) {
		if b, e := drift.CheckBound(s, high, early, late); b != want || e != errno {
			t.Error("CheckBound", high, early, late, b, e)
		}
	}
	bound(true, 0, 1, f(13, 5), api.OK)
	bound(false, 0, 1, f(8, 5), api.OK)
	bound(true, 1, 2, f(9, 5), api.OK)
	bound(true, -1, -1, f(10, 1), api.OK)
	bound(false, 1, 0, f(0, 0), api.ErrArg)

	if lo, hi, e := drift.Rate(s); lo != f(8, 5) || hi != f(9, 5) || e != api.OK {
		t.Error("Rate of S", lo, hi, e)
	}
	if lo, hi, e := drift.Rate(d); lo != f(0, 0) || hi != f(0, 0) || e != api.ErrStar {
		t.Error("Rate of D", lo, hi, e)
	}
	place := func(year int64, least, greatest api.Ratio, errno api.Errno) {
		if lo, hi, e := drift.Place(s, year); lo != least || hi != greatest || e != errno {
			t.Error("Place", year, lo, hi, e)
		}
	}
	place(20, f(136, 1), f(416, 3), api.OK)
	place(50, f(184, 1), f(192, 1), api.OK)
	place(201, f(0, 0), f(0, 0), api.ErrArg)

	for m, want := range map[api.DriftMotion]api.Errno{
		motion(104, 1, 8, 5): api.OK, motion(104, 1, 3, 2): api.ErrStar, motion(104, 0, 8, 5): api.ErrRange,
	} {
		if e := drift.CheckMotion(s, m); e != want {
			t.Error("CheckMotion", m, e)
		}
	}
	clash := func(low, high [2]int, want api.Errno) {
		if e := drift.CheckClash(d, low, high); e != want {
			t.Error("CheckClash", low, high, e)
		}
	}
	clash([2]int{2, 3}, [2]int{1, 2}, api.OK)
	clash([2]int{0, 1}, [2]int{1, 2}, api.OK)
	clash([2]int{0, 1}, [2]int{0, 3}, api.ErrSum)
	clash([2]int{3, 2}, [2]int{1, 2}, api.ErrArg)

	for i, x := range []api.DriftStar{s, d} {
		if n, e := drift.Fewest(x); n != i || e != api.OK {
			t.Error("Fewest", i, n, e)
		}
	}
	if e := drift.CheckLeft(d, []int{2}); e != api.OK {
		t.Error("CheckLeft", e)
	}
	if e := drift.CheckLeft(d, []int{1}); e != api.ErrStar {
		t.Error("CheckLeft", e)
	}
	for entry, want := range map[int]int{2: api.DriftAlways, 0: api.DriftNever} {
		if k, e := drift.Kind(d, entry); k != want || e != api.OK {
			t.Error("Kind", entry, k, e)
		}
	}
}
