package punch_test

import (
	"math"
	"slices"
	"sync"
	"testing"

	"burin/api"
	"burin/punch"
)

// lists returns calls of all functions that return a list of numbers.
func lists(a asked) []func() []int {
	return []func() []int{
		func() []int { l, _ := punch.Plan(a.j); return l },
		func() []int { l, _ := punch.Times(a.j, a.star); return l },
		func() []int { l, _ := punch.Chosen(a.j); return l },
	}
}

// told returns all results there are, with their errors.
func told(t *testing.T, a asked) []int {
	t.Helper()
	var out []int
	for _, call := range lists(a) {
		l := call()
		out = append(append(out, len(l)), l...)
	}
	for _, e := range answers(t, a) {
		out = append(out, int(e))
	}
	numbers := func(n int, _ api.Errno) { out = append(out, n) }
	numbers(punch.CheckWindow(a.j, a.from, a.to))
	numbers(punch.Fewest(a.j))
	numbers(punch.Kind(a.j, a.star))
	weights := func(n int64, _ api.Errno) { out = append(out, int(n)) }
	weights(punch.CheckStruck(a.j, a.stars))
	weights(punch.Heaviest(a.j))
	from, to, _ := punch.Window(a.j)
	return append(out, from, to)
}

// ask throws something that functions can be asked.
func (d *dice) ask() asked {
	a := asked{j: d.job(3, 6, 7)}
	if d.upTo(4) == 0 {
		a.j = d.job(5, 20, 16)
	}
	if len(a.j.Stars) == 0 {
		a.j = jobJ()
	}
	for _, s := range a.j.Stars {
		a.plan = append(a.plan, d.from(s.From, s.To))
	}
	a.star, a.stars = d.upTo(len(a.j.Stars)-1), starsOf(d.upTo(1<<len(a.j.Stars)-1))
	a.from = d.upTo(a.j.Life - 1)
	a.to = d.from(a.from, a.j.Life-1)
	return a
}

// TestNilAndEmpty checks R3.
func TestNilAndEmpty(t *testing.T) {
	for i, none := range [][]int{nil, {}} {
		for k, j := range []api.PunchJob{{Punches: 2, Life: 3}, {Punches: 2, Life: 3, Stars: []api.PunchStar{}}} {
			a := asked{j: j, plan: none, stars: none}
			expect(t, a, api.ErrArg, forTimes, forKind) // no star is one
			if l, e := punch.Plan(j); len(l) > 0 || e != api.OK {
				t.Error(i, k, l, e)
			}
			if l, e := punch.Chosen(j); len(l) > 0 || e != api.OK {
				t.Error(i, k, l, e)
			}
			if n, e := punch.Fewest(j); n != 0 || e != api.OK {
				t.Error(i, k, n, e)
			}
			if n, e := punch.Heaviest(j); n != 0 || e != api.OK {
				t.Error(i, k, n, e)
			}
			if n, e := punch.CheckStruck(j, none); n != 0 || e != api.OK {
				t.Error(i, k, n, e)
			}
		}
		a := right()
		a.plan = none
		expect(t, a, api.ErrEqual, forCheckPlan)
		a = right()
		a.stars = none
		expect(t, a, api.OK)
	}
}

// roomy returns a copy of a list with room behind it, in which there is something that no function writes.
func roomy[T any](list []T, x T) []T {
	out := append(slices.Clone(list), slices.Repeat([]T{x}, 50)...)
	return out[:len(list)]
}

// isRoomy reports whether a list that roomy returned is as it was.
func isRoomy[T comparable](list, before []T, x T) bool {
	return slices.Equal(list[:len(before)+50], append(slices.Clone(before), slices.Repeat([]T{x}, 50)...))
}

// TestArgumentsStay checks R4: no argument is changed, and a result is new memory.
func TestArgumentsStay(t *testing.T) {
	d := dice(50)
	odd := star(-7, -8, -9)
	for range 1000 {
		a := d.ask()
		b := a
		b.j.Stars = roomy(a.j.Stars, odd)
		b.plan, b.stars = roomy(a.plan, -7), roomy(a.stars, -7)
		told(t, b)
		for i, call := range lists(b) {
			list := call()
			kept := slices.Clone(list)
			list = list[:cap(list)]
			for k := range list {
				list[k] = -9
			}
			if again := call(); !slices.Equal(again, kept) {
				t.Fatal("kept:", i, a, again, kept)
			}
		}
		if !isRoomy(b.j.Stars, a.j.Stars, odd) || !isRoomy(b.plan, a.plan, -7) || !isRoomy(b.stars, a.stars, -7) {
			t.Fatal("changed:", a, b)
		}
	}
}

// TestAgain checks R9 and R10: equal calls return equal results, whatever the order of a map, and whatever was asked between.
func TestAgain(t *testing.T) {
	d := dice(51)
	var list []asked
	var wants [][]int
	for range 300 {
		a := d.ask()
		list = append(list, a)
		wants = append(wants, told(t, a))
	}
	for range 5 {
		for i, a := range list {
			if l := told(t, a); !slices.Equal(l, wants[i]) {
				t.Fatal(a, l, wants[i])
			}
		}
	}
}

// TestAtOnce checks that calls at the same time do not disturb one another.
func TestAtOnce(t *testing.T) {
	d := dice(52)
	var all sync.WaitGroup
	for range 8 {
		a := d.ask()
		want := told(t, a)
		all.Go(func() {
			for range 100 {
				if l := told(t, a); !slices.Equal(l, want) {
					t.Error(a, l, want)
					return
				}
			}
		})
	}
	all.Wait()
}

// TestAnyArguments checks P1: every function ends, and does not panic.
func TestAnyArguments(t *testing.T) {
	numbers := []int{math.MinInt, -1 << 40, -2, -1, 0, 1, 2, 3, 4, 5, 6, 15, 16, 17, 19, 20, 21, 64, 100, 101, 1 << 32, 1 << 40, math.MaxInt}
	d := dice(53)
	some := func() int { return numbers[d.upTo(len(numbers)-1)] }
	someList := func(most int) []int {
		list := make([]int, d.upTo(most))
		for i := range list {
			list[i] = some()
		}
		return list
	}
	for range 20000 {
		a := d.ask()
		i := d.upTo(len(a.j.Stars) - 1)
		s := a.j.Stars[i]
		change := []func(){
			func() { a.j.Punches = some() },
			func() { a.j.Life = some() },
			func() { a.j = withStar(a.j, i, star(some(), s.To, int(s.Weight))) },
			func() { a.j = withStar(a.j, i, star(s.From, some(), int(s.Weight))) },
			func() { a.j = withStar(a.j, i, star(s.From, s.To, some())) },
			func() { a.plan = someList(17) },
			func() { a.plan = append(a.plan[:len(a.plan)/2], some()) },
			func() { a.from, a.to = some(), some() },
			func() { a.star = some() },
			func() { a.stars = someList(17) },
		}
		for range d.from(1, 3) {
			change[d.upTo(len(change)-1)]()
		}
		told(t, a)
	}
	long := make([]int, 100000)
	a := right()
	a.plan, a.stars = long, long
	told(t, a)
	a.j.Stars = make([]api.PunchStar, 100000)
	told(t, a)
}

// TestLimits asks for as many stars, punches and strikes as there can be, and for one more.
func TestLimits(t *testing.T) {
	a := asked{full(), slices.Repeat(of(0, 5, 12, 19), 4), 0, 19, 15, starsOf(0xffff)}
	expect(t, a, api.OK)
	if n, e := punch.Heaviest(a.j); n != 1600 || e != api.OK {
		t.Error(n, e)
	}
	if n, e := punch.Kind(a.j, 15); n != api.PunchAlways || e != api.OK {
		t.Error(n, e)
	}
	every := func(j api.PunchJob, want api.Errno) {
		t.Helper()
		a := a
		a.j = j
		for i, e := range answers(t, a) {
			if e != want {
				t.Error(i, e, "not", want)
			}
		}
	}
	every(withStar(a.j, 16, star(0, 19, 100)), api.ErrMany)
	every(with(a.j, 6), api.ErrRange)
	longer := a.j
	longer.Life = 21
	every(longer, api.ErrRange)
	every(withStar(a.j, 15, star(0, 20, 100)), api.ErrRange)
	every(withStar(a.j, 15, star(0, 19, 101)), api.ErrRange)
	// All of the last strikes of all punches are done, and no one is left.
	most := job(5, 20, slices.Repeat(of(17, 19, 7), 16)...)
	most.Stars[0].From = 16
	if l, e := punch.Plan(most); !slices.Equal(l, of(16, 17, 17, 17, 17, 17, 18, 18, 18, 18, 18, 19, 19, 19, 19, 19)) || e != api.OK {
		t.Error(l, e)
	}
	most.Stars[0].From = 17
	if l, e := punch.Plan(most); len(l) > 0 || e != api.ErrPlan {
		t.Error(l, e)
	}
	if n, e := punch.CheckWindow(most, 17, 19); n != 16 || e != api.OK {
		t.Error(n, e)
	}
}
