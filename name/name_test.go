package name_test

import (
	"math"
	"slices"
	"testing"

	"burin/api"
	"burin/name"
)

// extremes are numbers of which no one is a name, a place, a side, or how many there are.
var extremes = []int{math.MinInt, math.MinInt + 1, -1 << 40, 1 << 40, math.MaxInt - 1, math.MaxInt}

// answers calls each function that has more results than an error, and returns the errors in a fixed order.
// It reports other results that are not zero, together with an error.
func answers(t *testing.T, s api.NameSheet, setting, names []int, place, one int) []api.Errno {
	t.Helper()
	n, e0 := name.CheckSetting(s, setting)
	set, e1 := name.Set(s, names)
	count, e2 := name.Count(s, names)
	kind, e3 := name.Kind(s, names, place)
	chain, e4 := name.Chain(s, names)
	bright, e5 := name.Brightest(s)
	why, e6 := name.Why(s, one)
	most, e7 := name.Most(s)
	if e0 != api.OK && n != 0 || e2 != api.OK && count != 0 || e3 != api.OK && kind != 0 || e7 != api.OK && most != 0 {
		t.Error("a number with an error:", s, n, count, kind, most)
	}
	if e1 != api.OK && len(set) > 0 || e4 != api.OK && len(chain) > 0 || e5 != api.OK && len(bright) > 0 || e6 != api.OK && len(why) > 0 {
		t.Error("a list with an error:", s, set, chain, bright, why)
	}
	return []api.Errno{e0, e1, e2, e3, e4, e5, e6, e7}
}

func TestP2_1_CheckSheet(t *testing.T) {
	for i, x := range []struct {
		s api.NameSheet
		e api.Errno
	}{
		{sheetS(), api.OK},
		{sheetX(), api.OK},
		{sheet(1, nil), api.OK},
		{sheet(1, of(0, 1)), api.OK},
		{sheet(10, nil), api.OK},
		{fullSheet(), api.OK},
		{sheet(3, of(5, 0, 5), 2, 0, 0, 2, 5, 1), api.OK},
		{api.NameSheet{}, api.ErrMany},
		{sheet(-1, nil), api.ErrMany},
		{sheet(11, nil), api.ErrMany},
		{sheet(10, nil, slices.Repeat(of(0, 19), 41)...), api.ErrMany},
		{sheet(10, slices.Repeat(of(19), 21)), api.ErrMany},
		{sheet(3, nil, 0, 6), api.ErrRange},
		{sheet(3, nil, 6, 0), api.ErrRange},
		{sheet(3, nil, 0, -1), api.ErrRange},
		{sheet(3, nil, -1, 0), api.ErrRange},
		{sheet(3, nil, 6, 7), api.ErrRange},
		{sheet(3, of(6)), api.ErrRange},
		{sheet(3, of(0, -1)), api.ErrRange},
		{sheet(10, of(20)), api.ErrRange},
		{sheet(3, nil, 0, 1), api.ErrRule},
		{sheet(3, nil, 5, 4), api.ErrRule},
		{sheet(3, nil, 2, 2), api.ErrRule},
		{sheet(3, nil, 0, 2, 0, 4, 1, 0), api.ErrRule},
		// R1: all elements are looked at for one error before any of them is for the next one
		{sheet(3, nil, 0, 1, 0, 6), api.ErrRange},
		{sheet(3, of(6), 0, 1), api.ErrRange},
		{sheet(0, of(0), 0, 1), api.ErrMany},
		{sheet(11, of(99), 0, 1), api.ErrMany},
		{sheet(3, of(6), slices.Repeat(of(0, 1), 41)...), api.ErrMany},
		{sheet(3, slices.Repeat(of(9), 21), 0, 1), api.ErrMany},
	} {
		if e := name.CheckSheet(x.s); e != x.e {
			t.Error(i, e, "not", x.e)
		}
		if x.e == api.OK {
			continue
		}
		// with other errors that come after it, and without them
		for _, e := range append(answers(t, x.s, nil, of(1, 0), -1, -1), answers(t, x.s, of(0), of(0), 0, 0)...) {
			if e != x.e {
				t.Error(i, e, "not", x.e)
			}
		}
		for _, names := range [][]int{of(1, 0), of(0)} {
			if e := name.CheckChain(x.s, names, nil); e != x.e {
				t.Error(i, e, "not", x.e)
			}
		}
	}
}

func TestP2_1_Extremes(t *testing.T) {
	for _, x := range extremes {
		if e := name.CheckSheet(sheet(x, nil)); e != api.ErrMany {
			t.Error(x, e)
		}
		for i, s := range []api.NameSheet{sheet(3, of(x)), sheet(3, nil, x, 0), sheet(3, nil, 0, x), sheet(3, nil, x, x)} {
			if e := name.CheckSheet(s); e != api.ErrRange {
				t.Error(x, i, e)
			}
		}
	}
}

func TestP2_2_CheckSetting(t *testing.T) {
	for i, x := range []struct {
		s       api.NameSheet
		setting []int
		n       int
		e       api.Errno
	}{
		{sheetS(), of(1, 0, 0), 3, api.OK},
		{sheetS(), of(1, 0, 1), 3, api.OK},
		{sheetS(), of(1, -1, 0), 2, api.OK},
		{sheetS(), of(-1, -1, 1), 1, api.OK},
		{sheetS(), of(-1, -1, -1), 0, api.OK},
		{sheetS(), of(0, 1, 1), 0, api.ErrName},
		{sheetS(), of(0, 0, -1), 0, api.ErrName},
		{sheet(2, of(1, 2)), of(0, 1), 2, api.OK},
		{sheet(2, of(1, 2)), of(1, -1), 0, api.ErrName},
		{sheet(2, of(1, 2)), of(-1, 0), 0, api.ErrName},
		{sheet(2, nil, 3, 0), of(0, 1), 0, api.ErrName},
		{fullSheet(), of(0, 0, 0, 0, 0, 0, 0, 0, 0, 0), 10, api.OK},
		{fullSheet(), of(-1, 0, 0, 0, 0, 0, 0, 0, 0, 1), 0, api.ErrName},
		{sheetS(), nil, 0, api.ErrEqual},
		{sheetS(), of(1, 0), 0, api.ErrEqual},
		{sheetS(), of(1, 0, 0, 0), 0, api.ErrEqual},
		{sheetS(), of(1, 0, 2), 0, api.ErrRange},
		{sheetS(), of(-2, 0, 0), 0, api.ErrRange},
		// R1
		{sheetS(), of(9, 9), 0, api.ErrEqual},
		{sheetS(), of(0, 1, 2), 0, api.ErrRange},
		{fullSheet(), of(0, 0, 0, 0, 0, 0, 0, 0, 2, 1), 0, api.ErrRange},
	} {
		if n, e := name.CheckSetting(x.s, x.setting); n != x.n || e != x.e {
			t.Error(i, n, e, "not", x.n, x.e)
		}
	}
	for _, x := range extremes {
		if n, e := name.CheckSetting(sheetS(), of(1, 0, x)); n != 0 || e != api.ErrRange {
			t.Error(x, n, e)
		}
	}
	for _, s := range sheets(1, 150, 6) {
		for _, v := range allSettings(s.Names) {
			n, want := ones(setBy(v)), api.OK
			if !isRight(s, v) {
				n, want = 0, api.ErrName
			}
			if m, e := name.CheckSetting(s, v); m != n || e != want {
				t.Fatal(s, v, m, e, "not", n, want)
			}
		}
	}
}

func TestP2_3_SetCount(t *testing.T) {
	can, cannot := 0, 0
	for _, s := range sheets(2, 300, 6) {
		right := rightOnes(s)
		for mask := range 1 << s.Names {
			list, names := right[mask], listOf(mask)
			set, e := name.Set(s, names)
			n, f := name.Count(s, names)
			if n != int64(len(list)) || f != api.OK {
				t.Fatal(s, names, n, f, "not", len(list))
			}
			if len(list) == 0 {
				cannot++
				if len(set) > 0 || e != api.ErrName {
					t.Fatal(s, names, set, e)
				}
				continue
			}
			can++
			if !slices.Equal(set, list[0]) || e != api.OK {
				t.Fatal(s, names, set, e, "not", list[0])
			}
		}
	}
	if min(can, cannot) < 500 {
		t.Error("too few of a kind:", can, cannot)
	}
}

func TestP2_4_Kind(t *testing.T) {
	var seen [3]int
	for _, s := range sheets(3, 200, 5) {
		right := rightOnes(s)
		for mask := range 1 << s.Names {
			for place := -2; place < 2*s.Names+2; place++ {
				want, e := kindOf(s, right[mask], mask, place)
				if e == api.OK {
					seen[want]++
				}
				if k, f := name.Kind(s, listOf(mask), place); k != want || e != f {
					t.Fatal(s, listOf(mask), place, k, f, "not", want, e)
				}
			}
			for _, x := range extremes {
				if k, e := name.Kind(s, listOf(mask), x); k != 0 || e != api.ErrRange {
					t.Fatal(s, listOf(mask), x, k, e)
				}
			}
		}
	}
	if min(seen[0], seen[1], seen[2]) < 1000 {
		t.Error("too few of a kind:", seen)
	}
}

// kindOf is the chapter's definition, for the right settings that set just the names of a mask.
func kindOf(s api.NameSheet, right [][]int, mask, place int) (int, api.Errno) {
	if place < 0 || place >= 2*s.Names || mask>>(place/2)&1 == 0 {
		return 0, api.ErrRange
	}
	in := 0
	for _, v := range right {
		if uses(v, place) {
			in++
		}
	}
	switch {
	case len(right) == 0:
		return 0, api.ErrName
	case in == len(right):
		return api.NameAlways, api.OK
	case in > 0:
		return api.NameMay, api.OK
	}
	return api.NameNever, api.OK
}

func TestP2_5_CheckChain(t *testing.T) {
	all := of(0, 1, 2)
	loops := func(n int) []int { return slices.Repeat(of(1, 2), n) }
	shut := sheet(3, of(2, 3), 0, 4, 1, 4)
	for i, x := range []struct {
		s            api.NameSheet
		names, chain []int
		e            api.Errno
	}{
		{sheetX(), all, of(0, 3, 4, 1, 2, 0), api.OK},
		{sheetX(), all, of(1, 2, 0, 3, 4, 1), api.OK},
		{shut, of(1), of(2, 3, 2), api.OK}, // as short as can be
		{shut, all, of(3, 2, 3), api.OK},
		{sheetX(), all, slices.Concat(of(0, 3, 4), loops(23), of(0)), api.OK}, // 50 places
		{sheetX(), all, slices.Concat(of(0, 3, 4), loops(23), of(0, 0)), api.ErrMany},
		{sheetX(), all, slices.Concat(of(0, 3, 4), loops(24), of(0)), api.ErrMany},
		{sheetX(), all, nil, api.ErrMany},
		{sheetX(), all, of(0), api.ErrMany},
		{sheetX(), all, of(0, 1), api.ErrMany},
		{sheetX(), all, slices.Repeat(of(9), 51), api.ErrMany},
		{sheetX(), all, of(-1, -1), api.ErrMany},
		{sheetX(), all, of(0, 6, 0), api.ErrRange},
		{sheetX(), all, of(0, 3, 4, 1, 2, -1), api.ErrRange},
		{sheetX(), of(0, 1), of(0, 3, 4, 1, 2, 0), api.ErrRange},
		{sheetX(), nil, of(0, 3, 4, 1, 2, 0), api.ErrRange},
		{shut, of(0, 2), of(2, 3, 2), api.ErrRange},
		{sheetS(), all, of(0, 3, 4, 1, 2, 0), api.ErrSum}, // from 1 no step leads to 2
		{sheetX(), all, of(0, 3, 0), api.ErrSum},          // nor from 3 to 0
		{sheetX(), all, of(0, 1, 0), api.ErrSum},          // nor to a mate, if it is not in Covered
		{sheetX(), all, of(0, 3, 4, 1, 2), api.ErrSum},    // it does not come back
		{sheetX(), all, of(1, 2, 1), api.ErrSum},          // it comes back without the mate of the first one
		{sheetX(), all, of(2, 1, 2, 1, 2), api.ErrSum},
		{sheetX(), all, of(0, 2, 0), api.ErrSum}, // to a place that is met itself
		{sheet(2, of(0), 1, 3, 1, 2), of(0, 1), of(0, 1, 2, 0), api.OK},
		{sheet(2, of(1), 1, 3, 1, 2), of(0, 1), of(0, 1, 2, 0), api.ErrSum}, // it is the mate that is in Covered
	} {
		if e := name.CheckChain(x.s, x.names, x.chain); e != x.e {
			t.Error(i, e, "not", x.e)
		}
	}
	for _, x := range extremes {
		if e := name.CheckChain(sheetX(), all, of(0, x, 0)); e != api.ErrRange {
			t.Error(x, e)
		}
	}
}

// TestP2_5_Lists goes from a place to others at random, and compares what CheckChain says with the definition.
func TestP2_5_Lists(t *testing.T) {
	d := dice(4)
	good := 0
	for _, s := range sheets(5, 20000, 4) {
		mask := 1<<s.Names - 1
		w := ways(s, mask)
		list := of(d.upTo(2*s.Names - 1))
		for range d.from(2, 8) {
			next := d.upTo(2*s.Names - 1)
			for range 30 { // mostly along a step
				if w[list[len(list)-1]][next] {
					break
				}
				next = d.upTo(2*s.Names - 1)
			}
			list = append(list, next)
		}
		want := api.ErrSum
		if isChain(s, mask, list) {
			want = api.OK
			good++
		}
		if e := name.CheckChain(s, listOf(mask), list); e != want {
			t.Fatal(s, list, e, "not", want)
		}
	}
	if good < 200 {
		t.Error("too few chains:", good)
	}
}

func TestP2_5_Chain(t *testing.T) {
	chains := 0
	for _, s := range append(sheets(6, 300, 6), fullSheet(), longWay()) {
		for mask := range 1 << s.Names {
			l, e := name.Chain(s, listOf(mask))
			if !hasChain(s, mask) {
				if len(l) > 0 || e != api.ErrNone {
					t.Fatal(s, listOf(mask), l, e)
				}
				continue
			}
			chains++
			if e != api.OK || len(l) < 3 || len(l) > 50 || !isChain(s, mask, l) {
				t.Fatal(s, listOf(mask), l, e)
			}
			if f := name.CheckChain(s, listOf(mask), l); f != api.OK {
				t.Fatal(s, listOf(mask), l, f)
			}
		}
	}
	if chains < 500 {
		t.Error("too few chains:", chains)
	}
}

func TestP2_6_BrightestWhy(t *testing.T) {
	left := 0
	for _, s := range append(sheets(7, 400, 6), sheet(1, of(0, 1)), sheet(2, of(1, 0), 0, 2)) {
		want := brightestOf(s.Names, rightOnes(s))
		l, e := name.Brightest(s)
		if !slices.Equal(l, want) || e != api.OK {
			t.Fatal(s, l, e, "not", want)
		}
		mask := 0 // of the brightest ones before a name
		for n := range s.Names {
			why, e := name.Why(s, n)
			if slices.Contains(want, n) {
				mask |= 1 << n
				if len(why) > 0 || e != api.ErrNone {
					t.Fatal(s, n, why, e)
				}
				continue
			}
			left++
			if f := name.CheckChain(s, listOf(mask|1<<n), why); e != api.OK || f != api.OK || !isChain(s, mask|1<<n, why) {
				t.Fatal(s, n, why, e, f)
			}
		}
		for _, n := range append(of(-1, s.Names, 10), extremes...) {
			if why, e := name.Why(s, n); len(why) > 0 || e != api.ErrArg {
				t.Fatal(s, n, why, e)
			}
		}
	}
	if left < 50 {
		t.Error("too few names are left:", left)
	}
}

func TestP2_7_Most(t *testing.T) {
	for _, s := range append(sheets(8, 400, 6), sheet(1, of(0, 1)), sheet(4, of(0), 1, 2, 1, 3, 1, 4, 1, 5, 1, 6, 1, 7)) {
		want := mostOf(rightOnes(s))
		if n, e := name.Most(s); n != want || e != api.OK {
			t.Fatal(s, n, e, "not", want)
		}
	}
}

func TestExamples(t *testing.T) {
	s, x, all := sheetS(), sheetX(), of(0, 1, 2)
	setting := func(v []int, want int, errno api.Errno) {
		if n, e := name.CheckSetting(s, v); n != want || e != errno {
			t.Error("CheckSetting", v, n, e)
		}
	}
	setting(of(1, 0, 0), 3, api.OK)
	setting(of(0, 1, 1), 0, api.ErrName)
	setting(of(1, -1, 0), 2, api.OK)
	setting(of(0, 1), 0, api.ErrEqual)

	set := func(s api.NameSheet, names, want []int, errno api.Errno) {
		if v, e := name.Set(s, names); !slices.Equal(v, want) || e != errno {
			t.Error("Set", s, names, v, e)
		}
	}
	set(s, all, of(1, 0, 0), api.OK)
	set(s, of(0, 2), of(0, -1, 1), api.OK)
	set(x, all, nil, api.ErrName)
	set(x, of(0, 1), of(0, 1, -1), api.OK)
	if n, e := name.Count(s, all); n != 2 || e != api.OK {
		t.Error("Count", n, e)
	}

	kind := func(place, want int, errno api.Errno) {
		if k, e := name.Kind(s, all, place); k != want || e != errno {
			t.Error("Kind", place, k, e)
		}
	}
	kind(0, 0, api.OK)
	kind(1, 2, api.OK)
	kind(4, 1, api.OK)
	kind(6, 0, api.ErrRange)

	chain := func(s api.NameSheet, list []int, errno api.Errno) {
		if e := name.CheckChain(s, all, list); e != errno {
			t.Error("CheckChain", s, list, e)
		}
	}
	chain(x, of(0, 3, 4, 1, 2, 0), api.OK)
	chain(x, of(0, 3, 0), api.ErrSum)
	chain(x, of(0, 1), api.ErrMany)
	chain(s, of(0, 3, 4, 1, 2, 0), api.ErrSum)

	for i, want := range [][]int{all, of(0, 1)} {
		if l, e := name.Brightest([]api.NameSheet{s, x}[i]); !slices.Equal(l, want) || e != api.OK {
			t.Error("Brightest", i, l, e)
		}
		if n, e := name.Most([]api.NameSheet{s, x}[i]); n != len(want) || e != api.OK {
			t.Error("Most", i, n, e)
		}
	}
	why, e := name.Why(x, 2)
	if f := name.CheckChain(x, all, why); e != api.OK || f != api.OK {
		t.Error("Why", why, e, f)
	}
	for n, want := range map[int]api.Errno{1: api.ErrNone, 3: api.ErrArg} {
		if l, e := name.Why(x, n); len(l) > 0 || e != want {
			t.Error("Why", n, l, e)
		}
	}
}
