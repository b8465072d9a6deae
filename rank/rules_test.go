package rank_test

import (
	"math"
	"slices"
	"sync"
	"testing"

	"burin/api"
	"burin/rank"
)

// told returns all results there are, with their errors, but for circles, of which it is not said which one is returned.
func told(t *testing.T, a asked) []int64 {
	t.Helper()
	var out []int64
	for _, e := range answers(t, a) {
		out = append(out, int64(e))
	}
	order, _ := rank.Order(a.b)
	for _, star := range order {
		out = append(out, int64(star))
	}
	ranks, _ := rank.Ranks(a.b, a.star)
	out = append(out, ranks...)
	count, _ := rank.Count(a.b)
	kind, _ := rank.Kind(a.b, a.one, a.two)
	span, _ := rank.Span(a.b, a.star)
	chance, _ := rank.Chance(a.b, a.one, a.two)
	depth, _ := rank.Depth(a.b)
	one, two, _ := rank.Next(a.b)
	return append(out, count, int64(kind), span.Lo, span.Hi, chance.Num, chance.Den, int64(depth), int64(one), int64(two))
}

// withCircle returns all results, and the circle.
func withCircle(t *testing.T, a asked) []int64 {
	t.Helper()
	out := told(t, a)
	circle, _ := rank.Circle(a.b)
	for _, star := range circle {
		out = append(out, int64(star))
	}
	return out
}

// ask throws something that functions can be asked.
func (d *dice) ask() asked {
	stars := []int{4, 4, d.from(2, 10)}[d.upTo(2)]
	b := d.ordered(stars, d.upTo(2*stars))
	if d.upTo(1) == 0 {
		b = d.any(stars, d.upTo(2*stars))
	}
	a := asked{b: b, order: d.shuffled(stars), circle: d.shuffled(stars)[:2], star: d.upTo(stars - 1)}
	a.one, a.two = d.pair(stars)
	return a
}

// TestNilAndEmpty checks R3.
func TestNilAndEmpty(t *testing.T) {
	for i, none := range [][]int{nil, {}} {
		a := right()
		a.order, a.circle = none, none
		e := answers(t, a)
		if e[forCheckOrder] != api.ErrEqual || e[forCheckCircle] != api.ErrMany {
			t.Error(i, e)
		}
	}
	for i, looks := range [][][2]int{nil, {}} {
		b := api.RankBook{Stars: 3, Looks: looks}
		order, e := rank.Order(b)
		if !slices.Equal(order, of(0, 1, 2)) || e != api.OK || countFor(t, b) != 6 || depthFor(t, b) != 3 {
			t.Error(i, order, e)
		}
	}
}

// roomy returns a copy of a list with room behind it, in which there is something that no function writes.
func roomy[T any](list []T, other T) []T {
	out := append(slices.Clone(list), slices.Repeat([]T{other}, 50)...)
	return out[:len(list)]
}

// isRoomy reports whether a list that roomy returned is as it was.
func isRoomy[T comparable](list, before []T, other T) bool {
	return slices.Equal(list[:len(before)+50], append(slices.Clone(before), slices.Repeat([]T{other}, 50)...))
}

// scribble writes into all of a list, and all that is behind it.
func scribble[T int | int64](list []T) {
	list = list[:cap(list)]
	for i := range list {
		list[i] = -9
	}
}

// TestArgumentsStay checks R4: no argument is changed, and a result is new memory.
func TestArgumentsStay(t *testing.T) {
	d := dice(50)
	other := [2]int{-7, -7}
	for range 500 {
		a := d.ask()
		b := a
		b.b.Looks, b.order, b.circle = roomy(a.b.Looks, other), roomy(a.order, -7), roomy(a.circle, -7)
		want := withCircle(t, a)
		if l := withCircle(t, b); !slices.Equal(l, want) {
			t.Fatal(a, l, want)
		}
		order, _ := rank.Order(b.b)
		circle, _ := rank.Circle(b.b)
		ranks, _ := rank.Ranks(b.b, b.star)
		scribble(order)
		scribble(circle)
		scribble(ranks)
		if l := withCircle(t, b); !slices.Equal(l, want) {
			t.Fatal("kept:", a, l, want)
		}
		if !isRoomy(b.b.Looks, a.b.Looks, other) || !isRoomy(b.order, a.order, -7) || !isRoomy(b.circle, a.circle, -7) {
			t.Fatal("changed:", a, b)
		}
	}
}

// TestAgain checks R9 and R10: equal calls return equal results, whatever the order of a map, and whatever was asked between.
func TestAgain(t *testing.T) {
	d := dice(51)
	var list []asked
	var wants [][]int64
	for range 200 {
		a := d.ask()
		list = append(list, a)
		wants = append(wants, withCircle(t, a))
	}
	for range 5 {
		for i, a := range list {
			if l := withCircle(t, a); !slices.Equal(l, wants[i]) {
				t.Fatal(a, l, wants[i])
			}
		}
	}
}

// TestAtOnce checks that calls at the same time do not disturb one another.
func TestAtOnce(t *testing.T) {
	d := dice(52)
	var all sync.WaitGroup
	for range 8 {
		a := d.ask()
		want := withCircle(t, a)
		all.Go(func() {
			for range 50 {
				if l := withCircle(t, a); !slices.Equal(l, want) {
					t.Error(a, l, want)
					return
				}
			}
		})
	}
	all.Wait()
}

// TestAnyArguments checks P1: every function ends, and does not panic.
func TestAnyArguments(t *testing.T) {
	numbers := []int{math.MinInt, -1 << 40, -2, -1, 0, 1, 2, 3, 4, 5, 6, 7, 8, 9, 10, 11, 16, 40, 41, 64, 1 << 32, 1 << 40, math.MaxInt}
	d := dice(53)
	some := func() int { return numbers[d.upTo(len(numbers)-1)] }
	someList := func(most int) []int {
		list := make([]int, d.upTo(most))
		for i := range list {
			list[i] = some()
		}
		return list
	}
	for range 5000 {
		a := d.ask()
		change := []func(){
			func() { a.b.Stars = some() },
			func() { a.b = with(a.b, some(), some()) },
			func() { a.b = with(a.b, a.one, some()) },
			func() { a.b = with(a.b, a.two, a.one) },
			func() { a.b = often(a.b.Stars, a.one, a.two, d.upTo(42)) },
			func() { a.order = someList(11) },
			func() { a.order = append(slices.Clone(a.order), some()) },
			func() { a.circle = someList(12) },
			func() { a.circle = append(slices.Clone(a.circle), some()) },
			func() { a.one = some() },
			func() { a.two = some() },
			func() { a.star = some() },
		}
		for range d.from(1, 3) {
			change[d.upTo(len(change)-1)]()
		}
		withCircle(t, a)
	}
	long := make([]int, 100000)
	a := right()
	a.order, a.circle, a.b.Looks = long, long, make([][2]int, 100000)
	withCircle(t, a)
}

// TestLimits asks for as many stars and looks as there can be, and for one more.
func TestLimits(t *testing.T) {
	d := dice(54)
	great := d.ordered(10, 40)
	order, e := rank.Order(great)
	if len(order) != 10 || e != api.OK {
		t.Fatal(order, e)
	}
	a := asked{great, order, order, 0, 9, 9}
	expect(t, a, true, api.ErrOver, forDepth, forNext)
	a.b = with(without(great, 0), great.Looks[1][1], great.Looks[1][0])
	a.circle, e = rank.Circle(a.b)
	if e != api.OK {
		t.Fatal(e)
	}
	expect(t, a, false, api.OK)
	for i, b := range []api.RankBook{with(great, 0, 1), with(great, 0, 0), with(a.b, 10, 10)} {
		a.b = b
		for k, e := range answers(t, a) {
			if e != api.ErrMany {
				t.Error(i, k, e)
			}
		}
	}
	a = asked{book(10), of(9, 8, 7, 6, 5, 4, 3, 2, 1, 0), of(0, 1, 2, 3, 4, 5, 6, 7, 8, 9), 9, 8, 9}
	expect(t, a, true, api.ErrOver, forDepth, forNext)
	if e := rank.CheckCircle(a.b, append(a.circle, 0)); e != api.ErrMany {
		t.Error(e)
	}
}
