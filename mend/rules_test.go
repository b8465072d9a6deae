package mend_test

import (
	"math"
	"slices"
	"sync"
	"testing"

	"burin/api"
	"burin/mend"
)

// lists returns calls of all functions that return lists of numbers; of Flatten there are both.
func lists(a asked) []func() []int64 {
	return []func() []int64{
		func() []int64 { l, _ := mend.Blow(a.p, a.place); return l },
		func() []int64 { l, _, _ := mend.Flatten(a.p); return l },
		func() []int64 { _, l, _ := mend.Flatten(a.p); return l },
		func() []int64 { l, _ := mend.Upon(a.p, a.q); return l },
		func() []int64 { l, _ := mend.Neutral(a.wide, a.high); return l },
	}
}

// told returns all results there are, with their errors.
func told(t *testing.T, a asked) []int64 {
	t.Helper()
	var out []int64
	for _, call := range lists(a) {
		l := call()
		out = append(append(out, int64(len(l))), l...)
	}
	for _, e := range answers(t, a) {
		out = append(out, int64(e))
	}
	burnt, _ := mend.Burn(a.p)
	for _, i := range burnt {
		out = append(out, int64(i))
	}
	if back, _ := mend.Back(a.p); back {
		out = append(out, -1)
	}
	lost, _ := mend.Lost(a.p)
	count, _ := mend.Count(a.wide, a.high)
	return append(out, lost, count)
}

// ask throws something that functions can be asked.
func (d *dice) ask() asked {
	a := asked{p: d.plate(6), wide: d.from(1, 6), high: d.from(1, 6)}
	a.q, a.place = d.dents(a.p, 30), d.upTo(len(a.p.Dents)-1)
	_, blows := hammered(a.p, last)
	a.blows = d.blows(blows, 1)
	return a
}

// TestNilAndEmpty checks R3.
func TestNilAndEmpty(t *testing.T) {
	for i, none := range [][]int64{nil, {}} {
		if e := mend.CheckPlate(plate(1, 1, none...)); e != api.ErrEqual {
			t.Error(i, e)
		}
		if e := mend.CheckPlate(with(api.MendPlate{}, none)); e != api.ErrRange {
			t.Error(i, e)
		}
		a := right()
		a.blows = none
		expect(t, a, api.ErrEqual, forCheckBlows)
		a = rightFlat()
		a.blows = none
		expect(t, a, api.ErrEqual, forCheckBlows)
		a = right()
		a.q.Dents = none
		expect(t, a, api.ErrEqual, forUpon)
	}
}

// roomy returns a copy of a list with room behind it, in which there is something that no function writes.
func roomy(list []int64) []int64 {
	out := append(slices.Clone(list), slices.Repeat(longs(-7), 50)...)
	return out[:len(list)]
}

// isRoomy reports whether a list that roomy returned is as it was.
func isRoomy(list, before []int64) bool {
	return slices.Equal(list[:len(before)+50], append(slices.Clone(before), slices.Repeat(longs(-7), 50)...))
}

// scribble writes into all of a list, and all that is behind it.
func scribble[T int | int64](list []T) {
	list = list[:cap(list)]
	for i := range list {
		list[i] = -9
	}
}

// TestArgumentsStay checks R4: no argument is changed, and a result is new memory.
func TestArgumentsStay(t *testing.T) {
	d := dice(50)
	for range 1000 {
		a := d.ask()
		b := a
		b.p.Dents, b.q.Dents, b.blows = roomy(a.p.Dents), roomy(a.q.Dents), roomy(a.blows)
		told(t, b)
		for i, call := range lists(b) {
			list := call()
			kept := slices.Clone(list)
			scribble(list)
			if again := call(); !slices.Equal(again, kept) {
				t.Fatal("kept:", i, a, again, kept)
			}
		}
		flat, blows, _ := mend.Flatten(b.p)
		kept := slices.Clone(blows)
		scribble(flat)
		if !slices.Equal(blows, kept) {
			t.Fatal("shared:", a, blows, kept)
		}
		one, _, _ := mend.Flatten(a.p)
		burnt, _ := mend.Burn(with(a.p, one))
		order := slices.Clone(burnt)
		scribble(burnt)
		if again, _ := mend.Burn(with(a.p, one)); !slices.Equal(again, order) {
			t.Fatal("kept:", a, again, order)
		}
		if !isRoomy(b.p.Dents, a.p.Dents) || !isRoomy(b.q.Dents, a.q.Dents) || !isRoomy(b.blows, a.blows) {
			t.Fatal("changed:", a, b)
		}
	}
}

// TestFlatStays checks R4 for plates of which nothing becomes anything else: what is returned is not the argument.
func TestFlatStays(t *testing.T) {
	p := plate(2, 2, 3, 1, 0, 1)
	flat, _, _ := mend.Flatten(p)
	both, _ := mend.Upon(p, same(2, 2, 0))
	scribble(flat)
	scribble(both)
	if !slices.Equal(p.Dents, longs(3, 1, 0, 1)) {
		t.Error(p)
	}
	q := same(2, 2, 2)
	twice, e := mend.Upon(q, q) // one list, twice
	if !slices.Equal(q.Dents, longs(2, 2, 2, 2)) || !slices.Equal(twice, longs(2, 2, 2, 2)) || e != api.OK {
		t.Error(q, twice, e)
	}
}

// TestAgain checks R9 and R10: equal calls return equal results, whatever the order of a map, and whatever was asked between.
func TestAgain(t *testing.T) {
	d := dice(51)
	var list []asked
	var wants [][]int64
	for range 200 {
		a := d.ask()
		list = append(list, a)
		wants = append(wants, told(t, a))
	}
	for range 5 {
		for i, a := range list {
			if l := told(t, a); !slices.Equal(l, wants[i]) {
				t.Fatal(a, l, wants[i])
			}
		}
	}
}

// TestAtOnce checks that calls at the same time do not disturb one another.
func TestAtOnce(t *testing.T) {
	d := dice(52)
	var all sync.WaitGroup
	for range 8 {
		a := d.ask()
		want := told(t, a)
		all.Go(func() {
			for range 100 {
				if l := told(t, a); !slices.Equal(l, want) {
					t.Error(a, l, want)
					return
				}
			}
		})
	}
	all.Wait()
}

// TestAnyArguments checks P1: every function ends, and does not panic.
func TestAnyArguments(t *testing.T) {
	numbers := []int{math.MinInt, -1 << 40, -2, -1, 0, 1, 2, 3, 4, 5, 6, 7, 12, 30, 31, 35, 36, 37, 1000000, 1000001, 1 << 32, 1 << 40, math.MaxInt}
	d := dice(53)
	some := func() int { return numbers[d.upTo(len(numbers)-1)] }
	someList := func(most int) []int64 {
		list := make([]int64, d.upTo(most))
		for i := range list {
			list[i] = int64(some())
		}
		return list
	}
	for range 10000 {
		a := d.ask()
		oneOf := func(p api.MendPlate) api.MendPlate {
			if len(p.Dents) == 0 {
				return p
			}
			return withDent(p, d.upTo(len(p.Dents)-1), int64(some()))
		}
		change := []func(){
			func() { a.p.Wide = some() },
			func() { a.p.High = some() },
			func() { a.q.Wide = some() },
			func() { a.q.High = some() },
			func() { a.p = with(a.p, someList(37)) },
			func() { a.q = with(a.q, someList(37)) },
			func() { a.p.Dents = append(slices.Clone(a.p.Dents), int64(some())) },
			func() { a.p = oneOf(a.p) },
			func() { a.q = oneOf(a.q) },
			func() { a.place = some() },
			func() { a.blows = someList(37) },
			func() { a.blows = slices.Repeat(longs(int64(some())), len(a.p.Dents)) },
			func() { a.wide, a.high = some(), some() },
		}
		for range d.from(1, 3) {
			change[d.upTo(len(change)-1)]()
		}
		told(t, a)
	}
	long := make([]int64, 100000)
	a := right()
	a.blows = long
	told(t, a)
	a.p.Dents, a.q.Dents = long, long
	told(t, a)
}

// TestLimits asks for as many places, dents and blows as there can be, and for one more.
func TestLimits(t *testing.T) {
	a := asked{full(), full(), 35, nil, 4, 4}
	_, a.blows = flatFor(t, full())
	expect(t, a, api.OK)
	flat, blows := hammered(full(), last)
	checkFlat(t, full(), flat, blows)
	if l, e := mend.Upon(full(), full()); !slices.Equal(l, laid(full(), full())) || e != api.OK {
		t.Error(l, e)
	}
	if e := mend.CheckBlows(same(6, 6, 3), same(6, 6, 1000000).Dents); e != api.OK {
		t.Error(e)
	}
	if e := mend.CheckBlows(same(6, 6, 3), withDent(same(6, 6, 1000000), 35, 1000001).Dents); e != api.ErrRange {
		t.Error(e)
	}
	b := a
	b.wide, b.high = 6, 6
	expect(t, b, api.ErrRange, forCount)
	b.wide = 7
	expect(t, b, api.ErrRange, forCount, forNeutral)
	every := func(p api.MendPlate, want api.Errno) {
		t.Helper()
		a := a
		a.p = p
		for i, e := range answers(t, a) {
			if i < withPlate && e != want {
				t.Error(i, e, "not", want)
			}
		}
	}
	every(same(7, 6, 30), api.ErrRange)
	every(same(6, 7, 30), api.ErrRange)
	every(withDent(full(), 35, 31), api.ErrArg)
	every(plate(6, 6, slices.Repeat(longs(30), 37)...), api.ErrEqual)
}
