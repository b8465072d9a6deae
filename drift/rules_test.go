package drift_test

import (
	"math"
	"slices"
	"testing"

	"burin/api"
	"burin/drift"
)

// everything calls each function with a star, and returns no result.
func everything(s api.DriftStar, m api.DriftMotion, early, late int, year int64, left []int) {
	drift.CheckStar(s)
	drift.CheckMotion(s, m)
	drift.CheckBound(s, true, early, late)
	drift.CheckBound(s, false, early, late)
	drift.Bound(s, true)
	drift.CheckClash(s, [2]int{early, late}, [2]int{late, early})
	drift.Clash(s)
	drift.Rate(s)
	drift.Place(s, year)
	drift.Motion(s, year, false)
	drift.Fewest(s)
	drift.CheckLeft(s, left)
	drift.Left(s)
	drift.Kind(s, early)
}

// TestAnyArguments checks P1: every function ends, and does not panic.
func TestAnyArguments(t *testing.T) {
	numbers := []int64{math.MinInt64, -1 << 40, -501, -1, 0, 1, 200, 10000, 40001, 1 << 33, math.MaxInt64}
	d := dice(40)
	some := func() int64 { return numbers[d.upTo(int64(len(numbers)-1))] }
	for range 20000 {
		s := d.star(6)
		k := d.upTo(int64(len(s.Entries) - 1))
		switch d.upTo(5) {
		case 0:
			s.Rate = rg(some(), some())
		case 1:
			s.Entries[k].Year = some()
		case 2:
			s.Entries[k].At = rg(some(), some())
		case 3:
			s.Entries = s.Entries[:k]
		}
		left := []int{int(some()), int(some())}
		everything(s, motion(some(), some(), some(), some()), int(some()), int(some()), some(), left[:d.upTo(2)])
	}
	everything(api.DriftStar{Entries: make([]api.DriftEntry, 100000)}, api.DriftMotion{}, 0, 1, 0, make([]int, 100000))
}

// TestArgumentsStay checks R4: no argument is changed, and a result is new memory.
func TestArgumentsStay(t *testing.T) {
	for _, s := range append(stars(41, 50, 8), starS(), starD()) {
		before := copyOf(s)
		left := []int{0, 0}
		everything(s, motion(104, 1, 8, 5), 0, 1, 20, left[:1])
		if s.Rate != before.Rate || !slices.Equal(s.Entries, before.Entries) || left[0] != 0 || left[1] != 0 {
			t.Fatal("changed:", before, s, left)
		}
		one, _ := drift.Left(s)
		kept := slices.Clone(one)
		for i := range one {
			one[i] = -7
		}
		if two, _ := drift.Left(s); !slices.Equal(two, kept) {
			t.Fatal("kept:", s, two, kept)
		}
	}
}

// TestAgain checks R9: equal calls return equal results.
func TestAgain(t *testing.T) {
	for _, s := range append(stars(42, 100, 10), starS(), starD()) {
		early, late, _ := drift.Bound(s, true)
		low, high, _ := drift.Clash(s)
		m, _ := drift.Motion(s, 33, true)
		left, _ := drift.Left(s)
		for range 5 {
			if a, b, _ := drift.Bound(s, true); a != early || b != late {
				t.Fatal(s, a, b, early, late)
			}
			if a, b, _ := drift.Clash(s); a != low || b != high {
				t.Fatal(s, a, b, low, high)
			}
			if n, _ := drift.Motion(s, 33, true); n != m {
				t.Fatal(s, n, m)
			}
			if l, _ := drift.Left(s); !slices.Equal(l, left) {
				t.Fatal(s, l, left)
			}
		}
	}
}

// TestLimits asks stars with as many entries as there can be, or with numbers at their limits.
func TestLimits(t *testing.T) {
	s := fullStar()
	if lo, hi, e := drift.Rate(s); lo != f(-100, 1) || hi != f(100, 1) || e != api.OK {
		// the entries of the years 0 and 200 allow 20,000 in 200 years
		t.Error(lo, hi, e)
	}
	var still, steep, apart api.DriftStar
	still.Rate, steep.Rate, apart.Rate = rg(0, 0), rg(-500, 500), rg(0, 0)
	for i := range int64(api.MaxDriftEntries) {
		still.Entries = append(still.Entries, api.DriftEntry{Year: i, At: rg(7, 7)})
		steep.Entries = append(steep.Entries, api.DriftEntry{Year: i, At: rg(500*i, 500*i)})
		apart.Entries = append(apart.Entries, api.DriftEntry{Year: i, At: rg(2*i, 2*i+1)})
	}
	if lo, hi, e := drift.Place(still, 200); lo != f(7, 1) || hi != f(7, 1) || e != api.OK {
		t.Error(lo, hi, e)
	}
	if lo, hi, e := drift.Place(steep, 200); lo != f(100000, 1) || hi != f(100000, 1) || e != api.OK {
		t.Error(lo, hi, e)
	}
	if n, e := drift.Fewest(apart); n != 11 || e != api.OK {
		t.Error(n, e)
	}
	for i := range apart.Entries {
		if k, e := drift.Kind(apart, i); k != api.DriftMay || e != api.OK {
			t.Error(i, k, e)
		}
	}
	far := star(rg(-500, 500), 200, 10000, 10000)
	if lo, hi, e := drift.Place(far, 0); lo != f(-90000, 1) || hi != f(110000, 1) || e != api.OK {
		t.Error(lo, hi, e)
	}
}
