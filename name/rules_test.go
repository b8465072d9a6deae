package name_test

import (
	"math"
	"slices"
	"testing"

	"burin/api"
	"burin/name"
)

// everything calls each function with a sheet, and returns no result.
func everything(s api.NameSheet, setting, names, chain []int, place, one int) {
	name.CheckSheet(s)
	name.CheckSetting(s, setting)
	name.Set(s, names)
	name.Count(s, names)
	name.Kind(s, names, place)
	name.CheckChain(s, names, chain)
	name.Chain(s, names)
	name.Brightest(s)
	name.Why(s, one)
	name.Most(s)
}

// TestNames checks that names that are no strictly increasing list of names of the sheet are ErrArg before what comes behind it (R1).
func TestNames(t *testing.T) {
	wrong := [][]int{of(3), of(-1), of(0, 0), of(1, 0), of(0, 1, 2, 3), of(0, 2, 2), of(0, 2, 1), make([]int, 1000)}
	for _, x := range extremes {
		wrong = append(wrong, of(x), of(0, x), of(x, 0))
	}
	for _, s := range []api.NameSheet{sheetS(), sheetX(), sheet(3, of(0, 1, 2, 3, 4, 5))} {
		for _, names := range wrong {
			e := answers(t, s, make([]int, s.Names), names, 99, 0)
			for _, k := range []int{1, 2, 3, 4} { // Set, Count, Kind, Chain
				if e[k] != api.ErrArg {
					t.Error(s, names, k, e[k])
				}
			}
			for _, chain := range [][]int{nil, of(0, 99, 0), of(0, 3, 4, 1, 2, 0)} {
				if e := name.CheckChain(s, names, chain); e != api.ErrArg {
					t.Error(s, names, chain, e)
				}
			}
		}
	}
	// Kind says that a place is none before it says that names cannot be set
	if k, e := name.Kind(sheetX(), of(0, 1, 2), 6); k != 0 || e != api.ErrRange {
		t.Error(k, e)
	}
	if k, e := name.Kind(sheetX(), of(0, 1, 2), 0); k != 0 || e != api.ErrName {
		t.Error(k, e)
	}
}

// TestNilAndEmpty checks R3.
func TestNilAndEmpty(t *testing.T) {
	full := api.NameSheet{Names: 2, Meets: [][2]int{}, Covered: []int{}}
	for _, s := range []api.NameSheet{full, {Names: 2}} {
		for _, names := range [][]int{nil, {}} {
			if v, e := name.Set(s, names); !slices.Equal(v, of(-1, -1)) || e != api.OK {
				t.Error(v, e)
			}
			if n, e := name.Count(s, names); n != 1 || e != api.OK {
				t.Error(n, e)
			}
			if l, e := name.Chain(s, names); len(l) > 0 || e != api.ErrNone {
				t.Error(l, e)
			}
			if e := name.CheckChain(s, of(0, 1), names); e != api.ErrMany {
				t.Error(e)
			}
			if n, e := name.CheckSetting(s, names); n != 0 || e != api.ErrEqual {
				t.Error(n, e)
			}
		}
	}
}

// TestArgumentsStay checks R4: no argument is changed, and a result is new memory.
func TestArgumentsStay(t *testing.T) {
	for _, s := range append(sheets(41, 100, 8), longWay()) {
		before := copyOf(s)
		names, chain, setting := listOf(1<<s.Names-1), of(0, 3, 4, 1, 2, 0), make([]int, s.Names)
		everything(s, setting, names, chain, 0, 0)
		everything(s, setting, names[:1:s.Names], chain, 0, s.Names-1) // there is room behind the list
		if !slices.Equal(s.Meets, before.Meets) || !slices.Equal(s.Covered, before.Covered) {
			t.Fatal("changed:", before, s)
		}
		if !slices.Equal(names, listOf(1<<s.Names-1)) || !slices.Equal(chain, of(0, 3, 4, 1, 2, 0)) || !slices.Equal(setting, make([]int, s.Names)) {
			t.Fatal("changed:", names, chain, setting)
		}
		for _, ask := range asked(s, names) {
			one := ask()
			kept := slices.Clone(one)
			for i := range one {
				one[i] = -7
			}
			if two := ask(); !slices.Equal(two, kept) {
				t.Fatal("kept:", s, two, kept)
			}
		}
	}
}

// asked returns calls of all functions that return a list.
func asked(s api.NameSheet, names []int) []func() []int {
	list := []func() []int{
		func() []int { l, _ := name.Set(s, names); return l },
		func() []int { l, _ := name.Set(s, nil); return l },
		func() []int { l, _ := name.Chain(s, names); return l },
		func() []int { l, _ := name.Brightest(s); return l },
	}
	for n := range s.Names {
		list = append(list, func() []int { l, _ := name.Why(s, n); return l })
	}
	return list
}

// TestAgain checks R9: equal calls return equal results, whatever the order of a map.
func TestAgain(t *testing.T) {
	for _, s := range append(sheets(42, 200, 10), longWay()) {
		for _, ask := range asked(s, listOf(1<<s.Names-1)) {
			one := ask()
			for range 5 {
				if two := ask(); !slices.Equal(one, two) {
					t.Fatal(s, one, two)
				}
			}
		}
	}
}

// TestOrder checks that the order of Meets and Covered, and how often they are there, makes no difference.
func TestOrder(t *testing.T) {
	for _, s := range sheets(43, 200, 6) {
		other := api.NameSheet{Names: s.Names}
		for i := len(s.Meets) - 1; i >= 0; i-- {
			m := s.Meets[i]
			other.Meets = append(other.Meets, [2]int{m[1], m[0]}, m)
		}
		for i := len(s.Covered) - 1; i >= 0; i-- {
			other.Covered = append(other.Covered, s.Covered[i], s.Covered[i])
		}
		if name.CheckSheet(other) != api.OK { // there may be too many
			continue
		}
		names := listOf(1<<s.Names - 1)
		again := asked(other, names)
		for i, ask := range asked(s, names) {
			if a, b := ask(), again[i](); !slices.Equal(a, b) {
				t.Fatal(s, i, a, b)
			}
		}
		n, _ := name.Most(s)
		if m, e := name.Most(other); m != n || e != api.OK {
			t.Fatal(s, n, m, e)
		}
	}
}

// TestAnyArguments checks P1: every function ends, and does not panic.
func TestAnyArguments(t *testing.T) {
	numbers := []int{math.MinInt, -1 << 40, -2, -1, 0, 1, 2, 3, 5, 9, 10, 11, 19, 20, 1 << 40, math.MaxInt}
	d := dice(40)
	some := func() int { return numbers[d.upTo(len(numbers)-1)] }
	for range 20000 {
		s := d.sheet(6)
		switch d.upTo(5) {
		case 0:
			s.Names = some()
		case 1:
			s.Meets = append(s.Meets, [2]int{some(), some()})
		case 2:
			s.Covered = append(s.Covered, some())
		}
		list := []int{some(), some(), some(), some()}
		everything(s, list, list[:d.upTo(3)], list[:d.from(2, 4)], some(), some())
	}
	long := make([]int, 100000)
	everything(api.NameSheet{Names: 10, Meets: make([][2]int, 100000), Covered: long}, long, long, long, 0, 0)
	everything(sheetS(), long, long, long, 0, 0)
}

// TestLimits asks sheets with as many names and meetings as there can be, and for chains that are long.
func TestLimits(t *testing.T) {
	all := listOf(1<<10 - 1)
	if n, e := name.Count(sheet(10, nil), all); n != 1024 || e != api.OK {
		t.Error(n, e)
	}
	if v, e := name.Set(sheet(10, of(0, 2, 4, 6, 8, 10, 12, 14, 16, 18)), all); !slices.Equal(v, slices.Repeat(of(1), 10)) || e != api.OK {
		t.Error(v, e)
	}
	covered := listOf(1<<20 - 1) // all places of all names
	if n, e := name.Most(sheet(10, covered)); n != 0 || e != api.OK {
		t.Error(n, e)
	}
	if l, e := name.Brightest(sheet(10, covered)); len(l) > 0 || e != api.OK {
		t.Error(l, e)
	}
	if l, e := name.Chain(longWay(), all); len(l) != 21 || name.CheckChain(longWay(), all, l) != api.OK || e != api.OK {
		// from a place to its mate, and back, it goes through each place once
		t.Error(l, e)
	}
	if l, e := name.Why(longWay(), 9); name.CheckChain(longWay(), all, l) != api.OK || e != api.OK {
		t.Error(l, e)
	}
	if n, e := name.Most(longWay()); n != 9 || e != api.OK {
		t.Error(n, e)
	}
	crowd := sheet(10, nil) // each five names, one after another, meet each other on both sides
	for a := range 5 {
		for b := range a {
			for group := 0; group < 20; group += 10 {
				crowd.Meets = append(crowd.Meets, [2]int{group + 2*a, group + 2*b}, [2]int{group + 2*a + 1, group + 2*b + 1})
			}
		}
	}
	if n, e := name.Most(crowd); len(crowd.Meets) != 40 || n != 4 || e != api.OK {
		t.Error(len(crowd.Meets), n, e)
	}
	if l, e := name.Brightest(crowd); !slices.Equal(l, of(0, 1, 5, 6)) || e != api.OK {
		t.Error(l, e)
	}
}
