package plate_test

import (
	"slices"
	"testing"

	"burin/api"
	"burin/plate"
)

// asked is what functions are asked.
type asked struct {
	p, q                 api.PlateSquare
	motion, other        int
	kinds, plan, heights []int
	size, classes        int
}

// right is something that no function has an error for.
func right() asked {
	return asked{plateP(), plateQ(), 1, 2, of(1, 4), of(4, 1), slices.Repeat(of(0), 8), 2, 2}
}

// The indexes of the errors that answers returns.
const (
	forCheckPlate = iota
	forMove
	forAfter
	forInverse
	forReached
	forCheckPlan
	forPlan
	forCheckHeights
	forHeights
	forStays
	forLeast
	forAlike
	forCircles
	forCount
	functions
)

var (
	withPlate = of(forCheckPlate, forMove, forStays, forLeast, forAlike)
	withKinds = of(forReached, forCheckPlan, forPlan, forCheckHeights, forHeights, forLeast, forAlike, forCount)
	withSize  = of(forCircles, forCount)
)

// answers calls each function, and returns the errors. It reports other results that are not zero, together with an error.
func answers(t *testing.T, a asked) [functions]api.Errno {
	t.Helper()
	var e [functions]api.Errno
	var zero [functions]bool
	e[forCheckPlate], zero[forCheckPlate] = plate.CheckPlate(a.p), true
	moved, err := plate.Move(a.p, a.motion)
	e[forMove], zero[forMove] = err, same(moved, api.PlateSquare{})
	both, err := plate.After(a.motion, a.other)
	e[forAfter], zero[forAfter] = err, both == 0
	back, err := plate.Inverse(a.motion)
	e[forInverse], zero[forInverse] = err, back == 0
	list, err := plate.Reached(a.kinds)
	e[forReached], zero[forReached] = err, len(list) == 0
	made, err := plate.CheckPlan(a.kinds, a.plan)
	e[forCheckPlan], zero[forCheckPlan] = err, made == 0
	moves, err := plate.Plan(a.kinds, a.motion)
	e[forPlan], zero[forPlan] = err, len(moves) == 0
	e[forCheckHeights], zero[forCheckHeights] = plate.CheckHeights(a.kinds, a.heights), true
	high, err := plate.Heights(a.kinds)
	e[forHeights], zero[forHeights] = err, len(high) == 0
	under, err := plate.Stays(a.p)
	e[forStays], zero[forStays] = err, len(under) == 0
	form, by, err := plate.Least(a.p, a.kinds)
	e[forLeast], zero[forLeast] = err, same(form, api.PlateSquare{}) && by == 0
	by, err = plate.Alike(a.p, a.q, a.kinds)
	e[forAlike], zero[forAlike] = err, by == 0
	n, err := plate.Circles(a.size, a.motion)
	e[forCircles], zero[forCircles] = err, n == 0
	many, err := plate.Count(a.size, a.classes, a.kinds)
	e[forCount], zero[forCount] = err, many == 0
	for i := range e {
		if e[i] != api.OK && !zero[i] {
			t.Error("a result with an error:", i, e[i], a)
		}
	}
	return e
}

// expect checks that functions return an error, and all others the errors of what is right.
func expect(t *testing.T, a asked, errno api.Errno, which ...int) {
	t.Helper()
	for i, e := range answers(t, a) {
		want := api.OK
		if slices.Contains(which, i) {
			want = errno
		}
		if e != want {
			t.Error("function", i, e, "not", want, a)
		}
	}
}

func TestRight(t *testing.T) {
	expect(t, right(), api.OK)
}

func TestP4_1_CheckPlate(t *testing.T) {
	for i, x := range []struct {
		p api.PlateSquare
		e api.Errno
	}{
		{plateP(), api.OK},
		{plain(1, 0), api.OK},
		{plain(1, 3), api.OK},
		{plain(8, 0), api.OK},
		{plain(8, 3), api.OK},
		{full(), api.OK},
		{square(2, 3, 2, 1, 0), api.OK},
		{api.PlateSquare{}, api.ErrMany},
		{square(0, 1), api.ErrMany},
		{square(-1, 1), api.ErrMany},
		{square(-2, 1, 0, 0, 0), api.ErrMany},
		{plain(9, 0), api.ErrMany},
		{plain(300, 0), api.ErrMany},
		{square(1), api.ErrEqual},
		{square(1, 0, 0), api.ErrEqual},
		{square(2, 0, 0, 0), api.ErrEqual},
		{square(2, 0, 0, 0, 0, 0), api.ErrEqual},
		{square(8, plain(8, 0).Dots[1:]...), api.ErrEqual},
		{square(8, plain(9, 0).Dots...), api.ErrEqual},
		{square(1, 4), api.ErrRange},
		{square(1, -1), api.ErrRange},
		{square(2, 4, 0, 0, 0), api.ErrRange},
		{square(2, 0, 0, 0, -1), api.ErrRange},
		{plain(8, 4), api.ErrRange},
		// R1
		{square(0), api.ErrMany},
		{square(9, 9), api.ErrMany},
		{plain(9, 4), api.ErrMany},
		{square(2, 9, 9, 9), api.ErrEqual},
		{square(2, 0, 0, 0, 0, -1), api.ErrEqual},
	} {
		if e := plate.CheckPlate(x.p); e != x.e {
			t.Error(i, e, "not", x.e)
		}
	}
}

func TestP4_1_Extremes(t *testing.T) {
	for _, x := range append(extremes, 1<<32, 1<<33, -1<<32) { // some of which, squared, are 0 in 64 bits
		for _, dots := range [][]int{nil, of(0), of(x)} {
			if e := plate.CheckPlate(square(x, dots...)); e != api.ErrMany {
				t.Error(x, dots, e)
			}
		}
		for _, dots := range [][]int{of(x, 0, 0, 0), of(0, 0, 0, x), of(x, x, x, x)} {
			if e := plate.CheckPlate(square(2, dots...)); e != api.ErrRange {
				t.Error(x, dots, e)
			}
		}
	}
}

// TestPlateFirst checks that the error of a plate comes before all others, and that of p before that of q.
func TestPlateFirst(t *testing.T) {
	for _, x := range []struct {
		p api.PlateSquare
		e api.Errno
	}{
		{square(9), api.ErrMany},
		{square(2, 9), api.ErrEqual},
		{square(2, 0, 0, 0, 9), api.ErrRange},
	} {
		a := right()
		a.p = x.p
		expect(t, a, x.e, withPlate...)
		a.q = square(2, 0)
		if x.e == api.ErrEqual {
			a.q = square(0)
		}
		a.kinds, a.motion = of(4, 1), 8
		e := answers(t, a)
		for _, i := range withPlate {
			if e[i] != x.e {
				t.Error(i, e[i], "not", x.e)
			}
		}

		a = right()
		a.q = x.p
		expect(t, a, x.e, forAlike)
		for _, kinds := range [][]int{of(1, 1), of(8), of(-1)} {
			if m, e := plate.Alike(plateP(), x.p, kinds); m != 0 || e != x.e {
				t.Error(kinds, m, e, "not", x.e)
			}
		}
	}
}

// TestKinds checks which lists are kinds, and that it is told after the plates, and before all else.
func TestKinds(t *testing.T) {
	wrong := [][]int{of(-1), of(8), of(0, 8), of(-1, 0), of(1, 1), of(4, 1), of(0, 2, 1), of(0, 1, 2, 3, 4, 5, 6, 7, 8), of(0, 1, 2, 3, 4, 5, 6, 7, 7), make([]int, 1000)}
	for _, x := range extremes {
		wrong = append(wrong, of(x), of(0, x), of(x, 0))
	}
	for _, kinds := range wrong {
		a := right()
		a.kinds = kinds
		expect(t, a, api.ErrRange, withKinds...)
		a.q, a.motion, a.plan, a.heights, a.size = plain(1, 0), 8, make([]int, 21), nil, 6
		e := answers(t, a)
		for _, i := range withKinds {
			if e[i] != api.ErrRange {
				t.Error(kinds, i, e[i])
			}
		}
		for _, plan := range [][]int{nil, of(9), of(1)} {
			if m, e := plate.CheckPlan(kinds, plan); m != 0 || e != api.ErrRange {
				t.Error(kinds, plan, m, e)
			}
		}
		for _, heights := range [][]int{of(1, 0, 0, 0, 0, 0, 0, 0), of(0, 9, 0, 0, 0, 0, 0, 0)} {
			if e := plate.CheckHeights(kinds, heights); e != api.ErrRange {
				t.Error(kinds, heights, e)
			}
		}
	}
	for _, kinds := range allKinds() {
		a := right()
		a.kinds, a.plan, a.motion = kinds, nil, 0
		for i, e := range answers(t, a) {
			if e != api.OK && i != forAlike {
				t.Error(kinds, i, e)
			}
		}
	}
}

// TestMotions checks which numbers are motions.
func TestMotions(t *testing.T) {
	for _, x := range append(extremes, -8, -1, 8, 9, 12, 100) {
		a := right()
		a.motion = x
		expect(t, a, api.ErrArg, forMove, forAfter, forInverse, forPlan, forCircles)
		a = right()
		a.other = x
		expect(t, a, api.ErrArg, forAfter)
		a.motion = x
		expect(t, a, api.ErrArg, forMove, forAfter, forInverse, forPlan, forCircles)
	}
	for m := range 8 {
		a := right()
		a.motion, a.other = m, 7-m
		expect(t, a, api.OK)
	}
}

func TestP4_2_Move(t *testing.T) {
	list := []api.PlateSquare{lopsided(), full(), square(3, 1, 2, 3, 0, 0, 0, 0, 0, 0)}
	for _, p := range slices.Concat(list, plates(1, 500, 8), allPlates(1, 4), allPlates(2, 4), allPlates(3, 2)) {
		for m := range 8 {
			if q, e := plate.Move(p, m); !same(q, movedOf(p, m)) || e != api.OK {
				t.Fatal(p, m, q, e, "not", movedOf(p, m))
			}
		}
	}
}

func TestP4_2_EachMotion(t *testing.T) {
	for m, want := range [][]int{
		of(1, 2, 3, 0, 0, 0, 0, 0, 0),
		of(0, 0, 1, 0, 0, 2, 0, 0, 3),
		of(0, 0, 0, 0, 0, 0, 3, 2, 1),
		of(3, 0, 0, 2, 0, 0, 1, 0, 0),
		of(3, 2, 1, 0, 0, 0, 0, 0, 0),
		of(0, 0, 3, 0, 0, 2, 0, 0, 1),
		of(0, 0, 0, 0, 0, 0, 1, 2, 3),
		of(1, 0, 0, 2, 0, 0, 3, 0, 0),
	} {
		if p, e := plate.Move(square(3, 1, 2, 3, 0, 0, 0, 0, 0, 0), m); !same(p, square(3, want...)) || e != api.OK {
			t.Error(m, p, e)
		}
	}
}

func TestP4_2_After(t *testing.T) {
	for one := range 8 {
		for other := range 8 {
			if m, e := plate.After(one, other); m != afterOf(one, other) || e != api.OK {
				t.Error(one, other, m, e, "not", afterOf(one, other))
			}
		}
	}
}

func TestP4_2_Inverse(t *testing.T) {
	for m, want := range of(0, 3, 2, 1, 4, 5, 6, 7) {
		if n, e := plate.Inverse(m); n != want || e != api.OK || afterOf(m, n) != 0 || afterOf(n, m) != 0 {
			t.Error(m, n, e)
		}
	}
}

func TestP4_3_Reached(t *testing.T) {
	table := afters()
	for _, kinds := range allKinds() {
		if l, e := plate.Reached(kinds); !slices.Equal(l, reachedOf(kinds, table)) || e != api.OK {
			t.Error(kinds, l, e, "not", reachedOf(kinds, table))
		}
	}
}

func TestP4_3_CheckPlan(t *testing.T) {
	seven := of(0, 1, 2, 3, 4, 5, 6, 7)
	for i, x := range []struct {
		kinds, plan []int
		made        int
		e           api.Errno
	}{
		{nil, nil, 0, api.OK},
		{of(5), nil, 0, api.OK},
		{of(5), of(5), 5, api.OK},
		{of(1, 4), of(1, 4), 7, api.OK},
		{of(1, 4), of(4, 1), 5, api.OK},
		{of(0), slices.Repeat(of(0), 20), 0, api.OK},
		{of(1), slices.Repeat(of(1), 19), 3, api.OK},
		{of(1), slices.Repeat(of(1), 20), 0, api.OK},
		{of(1), slices.Repeat(of(1), 21), 0, api.ErrMany},
		{nil, make([]int, 21), 0, api.ErrMany},
		{nil, of(0), 0, api.ErrArg},
		{of(1), of(0), 0, api.ErrArg},
		{of(1), of(1, 1, 2), 0, api.ErrArg},
		{of(1, 3), of(2), 0, api.ErrArg},
		{seven, of(1, -1), 0, api.ErrArg},
		{seven, of(8), 0, api.ErrArg},
		{of(1), of(9, 1), 0, api.ErrArg},
		{of(1), slices.Repeat(of(9), 20), 0, api.ErrArg},
		// R1
		{of(1), slices.Repeat(of(9), 21), 0, api.ErrMany},
		{of(8), slices.Repeat(of(9), 21), 0, api.ErrRange},
		{of(4, 1), of(9), 0, api.ErrRange},
	} {
		if m, e := plate.CheckPlan(x.kinds, x.plan); m != x.made || e != x.e {
			t.Error(i, m, e, "not", x.made, x.e)
		}
	}
	for _, x := range extremes {
		if m, e := plate.CheckPlan(seven, of(1, x)); m != 0 || e != api.ErrArg {
			t.Error(x, m, e)
		}
	}
}

func TestP4_3_Made(t *testing.T) {
	d := dice(2)
	for range 3000 {
		kinds := kindsOf(d.from(1, 255))
		list := make([]int, d.upTo(20))
		for i := range list {
			list[i] = kinds[d.upTo(len(kinds)-1)]
		}
		if m, e := plate.CheckPlan(kinds, list); m != madeOf(list) || e != api.OK {
			t.Fatal(kinds, list, m, e, "not", madeOf(list))
		}
	}
}

// TestP4_3_Plan asks for all plans there are, and finds the first of the shortest ones among all plans.
func TestP4_3_Plan(t *testing.T) {
	table := afters()
	for _, kinds := range allKinds() {
		var want [8][]int
		found := [8]bool{0: true}
		for long := range 5 { // no motion needs more moves, as heights tell
			for _, l := range allPlans(kinds, long) {
				m := 0
				for _, kind := range l {
					m = table[m][kind]
				}
				if !found[m] {
					want[m], found[m] = l, true
				}
			}
		}
		if slices.ContainsFunc(heightsOf(kinds, table), func(n int) bool { return n > 4 && n < 20 }) {
			t.Fatal("plans are longer than those that were looked at:", kinds)
		}
		for m := range 8 {
			errno := api.OK
			if !found[m] {
				errno = api.ErrPlan
			}
			if l, e := plate.Plan(kinds, m); !slices.Equal(l, want[m]) || e != errno {
				t.Fatal(kinds, m, l, e, "not", want[m], errno)
			}
		}
	}
	if l, e := plate.Plan(of(4, 5), 2); !slices.Equal(l, of(4, 5, 4, 5)) || e != api.OK { // before 5 4 5 4
		t.Error(l, e)
	}
	for _, x := range of(-1, 8) {
		if l, e := plate.Plan(nil, x); len(l) > 0 || e != api.ErrArg { // before ErrPlan
			t.Error(x, l, e)
		}
	}
}

func TestP4_4_CheckHeights(t *testing.T) {
	for i, x := range []struct {
		kinds, heights []int
		e              api.Errno
	}{
		{nil, of(0, 20, 20, 20, 20, 20, 20, 20), api.OK},
		{nil, of(0, 20, 0, 19, 1, 7, 20, 0), api.OK},
		{of(0), of(0, 20, 0, 19, 1, 7, 20, 0), api.OK},
		{of(0, 1, 2, 3, 4, 5, 6, 7), of(0, 1, 0, 1, 1, 0, 1, 0), api.OK},
		{of(1), of(0, 1, 2, 3, 20, 20, 19, 20), api.OK}, // a height may be above how many moves there are, if none is reached
		{nil, of(0, 0, 0, 0, 0, 0, 0), api.ErrEqual},
		{nil, of(0, 0, 0, 0, 0, 0, 0, 0, 0), api.ErrEqual},
		{nil, nil, api.ErrEqual},
		{nil, make([]int, 1000), api.ErrEqual},
		{nil, of(1, 0, 0, 0, 0, 0, 0, 0), api.ErrRange},
		{nil, of(20, 20, 20, 20, 20, 20, 20, 20), api.ErrRange},
		{nil, of(-1, 0, 0, 0, 0, 0, 0, 0), api.ErrRange},
		{nil, of(0, 21, 0, 0, 0, 0, 0, 0), api.ErrRange},
		{nil, of(0, 0, 0, 0, 0, 0, 0, 21), api.ErrRange},
		{nil, of(0, 0, 0, 0, 0, 0, 0, -1), api.ErrRange},
		{of(1), of(0, 2, 2, 2, 0, 0, 0, 0), api.ErrSum},
		{of(1), of(0, 1, 2, 3, 20, 18, 18, 18), api.ErrSum}, // 20 is one after 18
		{of(1), of(0, 0, 0, 0, 0, 2, 1, 1), api.ErrSum},
		{of(4), of(0, 0, 0, 0, 2, 0, 0, 0), api.ErrSum},
		{of(7), of(0, 0, 0, 0, 0, 0, 0, 2), api.ErrSum},
		// R1
		{of(1), of(1, 21, 0, 0, 0, 0, 0), api.ErrEqual},
		{of(1), of(0, 2, 0, 0, 0, 0, 0, 21), api.ErrRange},
		{of(1), of(1, 3, 0, 0, 0, 0, 0, 0), api.ErrRange},
	} {
		if e := plate.CheckHeights(x.kinds, x.heights); e != x.e {
			t.Error(i, e, "not", x.e)
		}
	}
	for _, x := range extremes {
		for i := range 8 {
			heights := make([]int, 8)
			heights[i] = x
			if e := plate.CheckHeights(of(1, 4), heights); e != api.ErrRange {
				t.Error(x, i, e)
			}
		}
	}
}

func TestP4_4_CheckHeightsThrown(t *testing.T) {
	table := afters()
	d := dice(3)
	var seen [2]int
	for range 20000 {
		kinds, most := d.kinds(), d.from(1, 4)
		list := make([]int, 8)
		for i := range list {
			list[i] = d.upTo(most)
		}
		list[0] = 0
		want, n := api.OK, 0
		if !areHeights(kinds, list, table) {
			want, n = api.ErrSum, 1
		}
		seen[n]++
		if e := plate.CheckHeights(kinds, list); e != want {
			t.Fatal(kinds, list, e, "not", want)
		}
	}
	if min(seen[0], seen[1]) < 1000 {
		t.Error("too few of a kind:", seen)
	}
}

func TestP4_4_Heights(t *testing.T) {
	table := afters()
	for _, kinds := range allKinds() {
		want := heightsOf(kinds, table)
		if l, e := plate.Heights(kinds); !slices.Equal(l, want) || e != api.OK {
			t.Error(kinds, l, e, "not", want)
		}
	}
}

func TestP4_5_Stays(t *testing.T) {
	for _, p := range slices.Concat(plates(4, 1000, 8), allPlates(1, 4), allPlates(2, 4), allPlates(3, 2), []api.PlateSquare{full(), lopsided()}) {
		var want []int
		for m := range 8 {
			if same(movedOf(p, m), p) {
				want = append(want, m)
			}
		}
		if l, e := plate.Stays(p); !slices.Equal(l, want) || e != api.OK {
			t.Fatal(p, l, e, "not", want)
		}
	}
	if l, e := plate.Stays(plain(8, 3)); !slices.Equal(l, of(0, 1, 2, 3, 4, 5, 6, 7)) || e != api.OK {
		t.Error(l, e)
	}
	if l, e := plate.Stays(lopsided()); !slices.Equal(l, of(0)) || e != api.OK {
		t.Error(l, e)
	}
}

func TestP4_5_Least(t *testing.T) {
	table := afters()
	d := dice(5)
	for _, p := range slices.Concat(plates(6, 1000, 8), allPlates(2, 4), []api.PlateSquare{full(), lopsided()}) {
		kinds := d.kinds()
		form, by := p, 0 // motion 0 is always reached, and the least one
		for _, m := range reachedOf(kinds, table) {
			if q := movedOf(p, m); slices.Compare(q.Dots, form.Dots) < 0 {
				form, by = q, m
			}
		}
		if q, m, e := plate.Least(p, kinds); !same(q, form) || m != by || e != api.OK {
			t.Fatal(p, kinds, q, m, e, "not", form, by)
		}
	}
}

func TestP4_5_Alike(t *testing.T) {
	table := afters()
	d := dice(7)
	for _, p := range slices.Concat(plates(8, 1000, 8), allPlates(2, 3), []api.PlateSquare{full(), lopsided()}) {
		kinds := d.kinds()
		for m := range 9 {
			q := movedOf(p, m%8)
			if m == 8 {
				q.Dots[d.upTo(len(q.Dots)-1)] = d.upTo(3)
			}
			want, errno := 0, api.ErrNone
			for _, n := range slices.Backward(reachedOf(kinds, table)) {
				if same(movedOf(p, n), q) {
					want, errno = n, api.OK
				}
			}
			if n, e := plate.Alike(p, q, kinds); n != want || e != errno {
				t.Fatal(p, q, kinds, n, e, "not", want, errno)
			}
		}
	}
}

func TestP4_5_NotAlike(t *testing.T) {
	kinds := of(0, 1, 2, 3, 4, 5, 6, 7)
	for size := range 9 {
		for other := range 9 {
			if size == 0 || other == 0 || size == other {
				continue
			}
			if m, e := plate.Alike(plain(size, 1), plain(other, 1), kinds); m != 0 || e != api.ErrNone {
				t.Error(size, other, m, e)
			}
			// also if all that is not empty is in the same places
			if m, e := plate.Alike(plain(size, 0), plain(other, 0), kinds); m != 0 || e != api.ErrNone {
				t.Error(size, other, m, e)
			}
		}
	}
	for i, x := range [][2]api.PlateSquare{
		{square(2, 1, 0, 0, 0), square(2, 0, 0, 0, 0)},
		{square(2, 0, 0, 0, 0), square(2, 1, 0, 0, 0)},
		{square(2, 1, 0, 0, 0), square(2, 1, 1, 0, 0)},
		{square(2, 1, 1, 0, 0), square(2, 1, 0, 0, 0)},
		{square(2, 1, 0, 0, 0), square(2, 0, 2, 0, 0)},
		{square(2, 1, 1, 0, 0), square(2, 1, 0, 0, 1)},
		{square(2, 1, 1, 2, 0), square(2, 1, 2, 2, 0)},
	} {
		if m, e := plate.Alike(x[0], x[1], kinds); m != 0 || e != api.ErrNone {
			t.Error(i, m, e)
		}
	}
}

func TestP4_6_Circles(t *testing.T) {
	for size := 1; size <= 8; size++ {
		for m := range 8 {
			if n, e := plate.Circles(size, m); n != circlesOf(size, m) || e != api.OK {
				t.Error(size, m, n, e, "not", circlesOf(size, m))
			}
		}
	}
	for _, x := range append(extremes, -1, 0, 9, 64) {
		a := right()
		a.size = x
		expect(t, a, api.ErrMany, withSize...)
		for _, m := range of(-1, 8) { // before ErrArg
			if n, e := plate.Circles(x, m); n != 0 || e != api.ErrMany {
				t.Error(x, m, n, e)
			}
		}
	}
	for _, m := range of(-1, 8) {
		if n, e := plate.Circles(8, m); n != 0 || e != api.ErrArg {
			t.Error(m, n, e)
		}
	}
}

func TestP4_6_Count(t *testing.T) {
	table := afters()
	for _, x := range [][2]int{{1, 1}, {1, 2}, {1, 3}, {1, 4}, {2, 1}, {2, 2}, {2, 3}, {2, 4}, {3, 1}, {3, 2}, {4, 1}, {5, 1}} {
		all := allPlates(x[0], x[1])
		known := map[string]int64{}
		for _, kinds := range allKinds() {
			reached := reachedOf(kinds, table)
			key := ""
			for _, m := range reached {
				key += string(rune('0' + m))
			}
			if _, ok := known[key]; !ok {
				known[key] = apartOf(all, reached)
			}
			if n, e := plate.Count(x[0], x[1], kinds); n != known[key] || e != api.OK {
				t.Fatal(x, kinds, n, e, "not", known[key])
			}
		}
		if len(known) != 10 { // so many groups of motions there are
			t.Error(len(known))
		}
	}
	for _, x := range [][2]int{{3, 3}, {4, 2}} { // of which there are many
		all := allPlates(x[0], x[1])
		for _, kinds := range [][]int{of(2, 7), of(4, 5)} {
			want := apartOf(all, reachedOf(kinds, table))
			if n, e := plate.Count(x[0], x[1], kinds); n != want || e != api.OK {
				t.Error(x, kinds, n, e, "not", want)
			}
		}
	}
}

func TestP4_6_CountErrors(t *testing.T) {
	for i, x := range []struct {
		size, classes int
		kinds         []int
		n             int64
		e             api.Errno
	}{
		{5, 4, nil, 1 << 50, api.OK},
		{5, 4, of(0), 1 << 50, api.OK},
		{5, 2, of(1), 8390720, api.OK},
		{5, 2, of(1, 4), 4211744, api.OK},
		{4, 2, of(1), 16456, api.OK},
		{4, 2, of(1, 4), 8548, api.OK},
		{6, 1, nil, 0, api.ErrOver},
		{6, 4, of(1), 0, api.ErrOver},
		{8, 4, of(1), 0, api.ErrOver},
		{9, 4, of(1), 0, api.ErrMany},
		{0, 4, of(1), 0, api.ErrMany},
		{2, 5, of(1), 0, api.ErrMany},
		{2, 0, of(1), 0, api.ErrMany},
		{2, -1, of(1), 0, api.ErrMany},
		// R1
		{9, 2, of(4, 1), 0, api.ErrMany},
		{6, 5, of(4, 1), 0, api.ErrMany},
		{6, 0, of(1), 0, api.ErrMany},
		{6, 2, of(4, 1), 0, api.ErrRange},
		{8, 2, of(8), 0, api.ErrRange},
		{2, 2, of(1, 1), 0, api.ErrRange},
	} {
		if n, e := plate.Count(x.size, x.classes, x.kinds); n != x.n || e != x.e {
			t.Error(i, n, e, "not", x.n, x.e)
		}
	}
	for _, x := range extremes {
		for _, y := range [][2]int{{x, 2}, {2, x}, {x, x}, {6, x}} {
			if n, e := plate.Count(y[0], y[1], of(1)); n != 0 || e != api.ErrMany {
				t.Error(y, n, e)
			}
		}
	}
}
