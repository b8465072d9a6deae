package plate_test

import (
	"math"
	"slices"
	"testing"

	"burin/api"
	"burin/plate"
)

// lists returns calls of all functions that return a list of numbers, or a plate.
func lists(a asked) []func() []int {
	return []func() []int{
		func() []int { p, _ := plate.Move(a.p, a.motion); return p.Dots },
		func() []int { p, _ := plate.Move(a.p, 0); return p.Dots },
		func() []int { l, _ := plate.Reached(a.kinds); return l },
		func() []int { l, _ := plate.Plan(a.kinds, a.motion); return l },
		func() []int { l, _ := plate.Heights(a.kinds); return l },
		func() []int { l, _ := plate.Stays(a.p); return l },
		func() []int { p, _, _ := plate.Least(a.p, a.kinds); return p.Dots },
		func() []int { p, _, _ := plate.Least(a.p, nil); return p.Dots },
	}
}

// told returns all results there are, with their errors.
func told(t *testing.T, a asked) []int {
	var out []int
	for _, call := range lists(a) {
		l := call()
		out = append(append(out, len(l)), l...)
	}
	for _, e := range answers(t, a) {
		out = append(out, int(e))
	}
	numbers := func(n int, _ api.Errno) { out = append(out, n) }
	numbers(plate.After(a.motion, a.other))
	numbers(plate.Inverse(a.motion))
	numbers(plate.CheckPlan(a.kinds, a.plan))
	numbers(plate.Alike(a.p, a.q, a.kinds))
	numbers(plate.Circles(a.size, a.motion))
	_, by, _ := plate.Least(a.p, a.kinds)
	n, _ := plate.Count(a.size, a.classes, a.kinds)
	return append(out, by, int(n))
}

// ask throws something that functions can be asked.
func (d *dice) ask() asked {
	p, kinds := d.plate(d.from(1, 8)), d.kinds()
	list := make([]int, 0)
	for range d.upTo(20) {
		if len(kinds) > 0 {
			list = append(list, kinds[d.upTo(len(kinds)-1)])
		}
	}
	return asked{
		p: p, q: movedOf(p, d.upTo(7)), motion: d.upTo(7), other: d.upTo(7),
		kinds: kinds, plan: list, heights: []int{0, d.upTo(2), d.upTo(2), d.upTo(2), d.upTo(2), d.upTo(2), d.upTo(2), d.upTo(2)},
		size: d.from(1, 5), classes: d.from(1, 4),
	}
}

// TestNilAndEmpty checks R3.
func TestNilAndEmpty(t *testing.T) {
	for _, none := range [][]int{nil, {}} {
		a := right()
		a.kinds, a.plan, a.motion, a.q = none, none, 0, plateP()
		expect(t, a, api.OK)
		a.heights = none
		expect(t, a, api.ErrEqual, forCheckHeights)
		if l, e := plate.Reached(none); !slices.Equal(l, of(0)) || e != api.OK {
			t.Error(l, e)
		}
		if l, e := plate.Plan(none, 0); len(l) > 0 || e != api.OK {
			t.Error(l, e)
		}
		if m, e := plate.CheckPlan(none, none); m != 0 || e != api.OK {
			t.Error(m, e)
		}
		if n, e := plate.Count(2, 2, none); n != 16 || e != api.OK {
			t.Error(n, e)
		}
		if e := plate.CheckPlate(square(0, none...)); e != api.ErrMany {
			t.Error(e)
		}
		if e := plate.CheckPlate(square(1, none...)); e != api.ErrEqual {
			t.Error(e)
		}
	}
}

// roomy returns a copy of a list with room behind it, in which there are numbers that no function writes.
func roomy(list []int) []int {
	out := append(slices.Clone(list), slices.Repeat(of(-7), 100)...)
	return out[:len(list)]
}

// TestArgumentsStay checks R4: no argument is changed, and a result is new memory.
func TestArgumentsStay(t *testing.T) {
	d := dice(40)
	for range 500 {
		a := d.ask()
		b := a
		b.p.Dots, b.q.Dots = roomy(a.p.Dots), roomy(a.q.Dots)
		b.kinds, b.plan, b.heights = roomy(a.kinds), roomy(a.plan), roomy(a.heights)
		told(t, b)
		for i, call := range lists(b) {
			list := call()
			kept := slices.Clone(list)
			list = list[:cap(list)]
			for k := range list {
				list[k] = -9
			}
			if again := call(); !slices.Equal(again, kept) {
				t.Fatal("kept:", i, a, again, kept)
			}
		}
		for i, x := range [][2][]int{{a.p.Dots, b.p.Dots}, {a.q.Dots, b.q.Dots}, {a.kinds, b.kinds}, {a.plan, b.plan}, {a.heights, b.heights}} {
			if !slices.Equal(x[1][:cap(x[1])][:len(x[0])+100], roomy(x[0])[:len(x[0])+100]) {
				t.Fatal("changed:", i, a, b)
			}
		}
	}
}

// TestAgain checks R9: equal calls return equal results, whatever the order of a map.
func TestAgain(t *testing.T) {
	d := dice(41)
	for range 300 {
		a := d.ask()
		want := told(t, a)
		for range 5 {
			if l := told(t, a); !slices.Equal(l, want) {
				t.Fatal(a, l, want)
			}
		}
	}
}

// TestAnyArguments checks P1: every function ends, and does not panic.
func TestAnyArguments(t *testing.T) {
	numbers := []int{math.MinInt, -1 << 40, -2, -1, 0, 1, 2, 3, 4, 5, 6, 7, 8, 9, 20, 21, 64, 1 << 32, 1 << 40, math.MaxInt}
	d := dice(42)
	some := func() int { return numbers[d.upTo(len(numbers)-1)] }
	someList := func(most int) []int {
		list := make([]int, d.upTo(most))
		for i := range list {
			list[i] = some()
		}
		return list
	}
	for range 20000 {
		a := d.ask()
		change := []func(){
			func() { a.p.Size = some() },
			func() { a.p.Dots = someList(5) },
			func() { a.q.Size = some() },
			func() { a.q.Dots = someList(5) },
			func() { a.motion, a.other = some(), some() },
			func() { a.kinds = someList(3) },
			func() { a.plan = someList(25) },
			func() { a.heights = someList(9) },
			func() { a.size, a.classes = some(), some() },
		}
		for range d.from(1, 3) {
			change[d.upTo(len(change)-1)]()
		}
		told(t, a)
	}
	long := make([]int, 100000)
	told(t, asked{square(8, long...), square(316, long...), 0, 0, long, long, long, 5, 4})
	a := right()
	a.plan, a.heights = long, long
	told(t, a)
}

// TestLimits asks for plates of 8 rows, plans of 20 moves, and counts of plates of 5 rows.
func TestLimits(t *testing.T) {
	a := asked{full(), movedOf(full(), 6), 7, 7, of(0, 1, 2, 3, 4, 5, 6, 7), slices.Repeat(of(7), 20), of(0, 1, 1, 1, 1, 1, 1, 1), 5, 4}
	expect(t, a, api.OK)
	if m, e := plate.Alike(lopsided(), movedOf(lopsided(), 6), a.kinds); m != 6 || e != api.OK {
		t.Error(m, e)
	}
	if l, e := plate.Plan(a.kinds, 7); !slices.Equal(l, of(7)) || e != api.OK {
		t.Error(l, e)
	}
	a.size = 6
	expect(t, a, api.ErrOver, forCount)
	a.size = 9
	expect(t, a, api.ErrMany, forCircles, forCount)
	a.size, a.classes = 5, 5
	expect(t, a, api.ErrMany, forCount)
	a.classes, a.plan = 4, slices.Repeat(of(7), 21)
	expect(t, a, api.ErrMany, forCheckPlan)
	a.plan, a.heights = nil, of(0, 21, 1, 1, 1, 1, 1, 1)
	expect(t, a, api.ErrRange, forCheckHeights)
	a.kinds, a.heights = nil, of(0, 20, 20, 20, 20, 20, 20, 20)
	a.motion, a.q = 0, a.p
	expect(t, a, api.OK)
	a.p = plain(9, 0)
	expect(t, a, api.ErrMany, forCheckPlate, forMove, forStays, forLeast, forAlike)
}
