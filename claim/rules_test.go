package claim_test

import (
	"math"
	"slices"
	"sync"
	"testing"

	"burin/api"
	"burin/claim"
)

// told returns all results there are, with their errors.
func told(t *testing.T, a asked) []int {
	t.Helper()
	var out []int
	for _, e := range answers(t, a) {
		out = append(out, int(e))
	}
	all, _ := claim.All(a.b)
	out = append(out, len(all))
	for _, m := range append(all, matchings(a)...) {
		out = append(append(out, m...), -9)
	}
	many, _ := claim.CheckMatching(a.b, a.m)
	nation, star, _ := claim.Unsettled(a.b, a.m)
	kind, _ := claim.Kind(a.b, a.nation, a.star)
	return append(out, many, nation, star, kind)
}

// matchings returns the single matchings that functions return.
func matchings(a asked) [][]int {
	first, _ := claim.First(a.b)
	last, _ := claim.Last(a.b)
	better, _ := claim.Better(a.b, a.m, a.n)
	worse, _ := claim.Worse(a.b, a.m, a.n)
	return these(first, last, better, worse)
}

// ask throws something that functions can be asked.
func (d *dice) ask() asked {
	b := d.anyBook(d.from(1, 5), d.from(1, 5))
	if d.upTo(1) == 0 {
		b = d.opposed(d.from(2, 4))
	}
	list := settledOf(b)
	if d.upTo(3) == 0 {
		list = matchingsOf(b)
	}
	one := func() []int { return list[d.upTo(len(list)-1)] }
	return asked{b, one(), one(), d.upTo(len(b.Nations) - 1), d.upTo(len(b.Stars) - 1)}
}

// TestNilAndEmpty checks R3.
func TestNilAndEmpty(t *testing.T) {
	for i, none := range these(nil, of()) {
		a := right()
		a.m = none
		expect(t, a, true, api.ErrEqual, withM()...)
		a = right()
		a.n = none
		expect(t, a, true, api.ErrEqual, withN()...)
		b := book(these(none, of(0), none), these(none, none))
		if all := checkBook(t, b); len(all) != 1 || !slices.Equal(all[0], of(-1, -1, -1)) {
			t.Error(i, all)
		}
	}
	for i, none := range [][][]int{nil, {}} {
		for _, b := range []api.ClaimBook{book(none, none), book(these(nil), none), book(none, these(nil))} {
			for k, e := range answers(t, asked{b: b}) {
				if e != api.ErrMany {
					t.Error(i, k, e)
				}
			}
		}
	}
}

// roomy returns a copy of a list with room behind it, in which there are numbers that no function writes.
func roomy(list []int) []int {
	out := append(slices.Clone(list), slices.Repeat(of(-7), 20)...)
	return out[:len(list)]
}

// isRoomy reports whether a list that roomy returned is as it was.
func isRoomy(list, before []int) bool {
	return slices.Equal(list[:len(before)+20], append(slices.Clone(before), slices.Repeat(of(-7), 20)...))
}

// roomyLists does the same for lists of lists.
func roomyLists(some [][]int) [][]int {
	var out [][]int
	for _, list := range some {
		out = append(out, roomy(list))
	}
	return append(out, these(of(-7), of(-7), of(-7))...)[:len(some)]
}

func areRoomy(some, before [][]int) bool {
	for _, list := range some[len(before) : len(before)+3] {
		if !slices.Equal(list, of(-7)) {
			return false
		}
	}
	return slices.EqualFunc(some, before, isRoomy)
}

// scribble writes into all of a list, and all that is behind it.
func scribble(list []int) {
	list = list[:cap(list)]
	for i := range list {
		list[i] = -9
	}
}

// TestArgumentsStay checks R4: no argument is changed, and a result is new memory.
func TestArgumentsStay(t *testing.T) {
	d := dice(50)
	for range 500 {
		a := d.ask()
		b := a
		b.b = book(roomyLists(a.b.Nations), roomyLists(a.b.Stars))
		b.m, b.n = roomy(a.m), roomy(a.n)
		want := told(t, a)
		if list := told(t, b); !slices.Equal(list, want) {
			t.Fatal(a, list, want)
		}
		all, _ := claim.All(b.b)
		for _, m := range append(all, matchings(b)...) {
			scribble(m)
		}
		if list := told(t, b); !slices.Equal(list, want) {
			t.Fatal("kept:", a, list, want)
		}
		if !areRoomy(b.b.Nations, a.b.Nations) || !areRoomy(b.b.Stars, a.b.Stars) || !isRoomy(b.m, a.m) || !isRoomy(b.n, a.n) {
			t.Fatal("changed:", a, b)
		}
	}
}

// TestOneByOne checks that the matchings of All share no memory with one another, nor does one with the same two put together.
func TestOneByOne(t *testing.T) {
	for _, b := range append(anyBooks(51, 5, 100), bookSix()) {
		all := allFor(t, b)
		want := deep(all)
		for i := range all {
			scribble(all[i])
			for k := i + 1; k < len(all); k++ {
				if !slices.Equal(all[k], want[k]) {
					t.Fatal(b, i, k, all, want)
				}
			}
		}
		m := slices.Clone(want[0])
		for _, list := range these(betterFor(t, b, m, m), worseFor(t, b, m, m)) {
			scribble(list)
		}
		if !slices.Equal(m, want[0]) {
			t.Fatal(b, m)
		}
	}
}

// TestAgain checks R9 and R10: equal calls return equal results, whatever the order of a map, and whatever was asked between.
func TestAgain(t *testing.T) {
	d := dice(52)
	var list []asked
	var wants [][]int
	for range 200 {
		a := d.ask()
		list = append(list, a)
		wants = append(wants, told(t, a))
	}
	for range 5 {
		for i, a := range list {
			if l := told(t, a); !slices.Equal(l, wants[i]) {
				t.Fatal(a, l, wants[i])
			}
		}
	}
}

// TestAtOnce checks that calls at the same time do not disturb one another.
func TestAtOnce(t *testing.T) {
	d := dice(53)
	a := d.ask()
	var all sync.WaitGroup
	for range 8 {
		b := d.ask()
		if d.upTo(1) == 0 {
			b = a // the same lists
		}
		want := told(t, b)
		all.Go(func() {
			for range 50 {
				if l := told(t, b); !slices.Equal(l, want) {
					t.Error(b, l, want)
					return
				}
			}
		})
	}
	all.Wait()
}

// TestAnyArguments checks P1: every function ends, and does not panic.
func TestAnyArguments(t *testing.T) {
	numbers := of(math.MinInt64, -1<<32, -3, -2, -1, 0, 1, 2, 3, 4, 5, 6, 7, 8, 63, 64, 1<<32, math.MaxInt64)
	d := dice(54)
	some := func() int { return numbers[d.upTo(len(numbers)-1)] }
	someList := func(most int) []int {
		list := make([]int, d.upTo(most))
		for i := range list {
			list[i] = some()
		}
		return list
	}
	for range 5000 {
		a := d.ask()
		a.b = copied(a.b)
		change := []func(){
			func() { a.b.Nations = append(a.b.Nations, someList(3)) },
			func() { a.b.Stars = append(a.b.Stars, someList(3)) },
			func() { a.b.Nations = a.b.Nations[:d.upTo(len(a.b.Nations))] },
			func() { a.b.Stars = a.b.Stars[:d.upTo(len(a.b.Stars))] },
			func() { a.b.Nations = append(deep(a.b.Nations), nil, nil, d.list(3)) },
			func() { a.b.Stars = append(deep(a.b.Stars), d.list(3), nil, nil) },
			func() { a.b.Nations = slices.Repeat(these(someList(7)), d.upTo(7)) },
			func() { a.b = turned(a.b) },
			func() { a.m = someList(7) },
			func() { a.n = append(slices.Clone(a.n), some()) },
			func() { a.m, a.n = a.n, a.m[:d.upTo(len(a.m))] },
			func() { a.nation = some() },
			func() { a.star = some() },
		}
		for range d.from(1, 3) {
			change[d.upTo(len(change)-1)]()
		}
		told(t, a)
	}
	a := right()
	a.m, a.n = make([]int, 100000), make([]int, 100000)
	told(t, a)
	a.b = book(these(make([]int, 100000)), these(make([]int, 100000)))
	told(t, a)
	a.b = book(make([][]int, 100000), make([][]int, 100000))
	told(t, a)
}

// TestLimits asks for as many nations and stars as there can be, and for one more.
func TestLimits(t *testing.T) {
	six := bookSix()
	m, n := of(0, 1, 2, 3, 4, 5), of(1, 2, 3, 4, 5, 0)
	for i, e := range answers(t, asked{six, m, n, 5, 5}) {
		if e != usual(i, true) {
			t.Error(i, e)
		}
	}
	for _, b := range []api.ClaimBook{book(append(six.Nations, nil), six.Stars), book(six.Nations, append(six.Stars, nil))} {
		for i, e := range answers(t, asked{b, m, n, 5, 5}) {
			if e != api.ErrMany {
				t.Error(i, e)
			}
		}
	}
	for _, b := range []api.ClaimBook{book(six.Nations, six.Stars[:5]), book(six.Nations[:5], six.Stars)} {
		for i, e := range answers(t, asked{b, m, n, 4, 4}) {
			if e != api.ErrRange {
				t.Error(i, e)
			}
		}
	}
	one := book(these(of(5)), these(nil, nil, nil, nil, nil, of(0)))
	if all := checkBook(t, one); !slices.Equal(all[0], of(5)) {
		t.Error(all)
	}
	if all := checkBook(t, turned(one)); !slices.Equal(all[0], of(-1, -1, -1, -1, -1, 0)) {
		t.Error(all)
	}
}
