package index_test

import (
	"math"
	"slices"
	"strings"
	"sync"
	"testing"

	"burin/api"
	"burin/index"
)

// told returns all results there are, with their errors.
func told(t *testing.T, a asked) []any {
	t.Helper()
	var out []any
	for _, e := range answers(t, a) {
		out = append(out, e)
	}
	s, _ := index.Build(a.l)
	for _, state := range s {
		out = append(out, state.Ends, state.Letters, len(state.Next))
		for _, next := range state.Next {
			out = append(out, next)
		}
	}
	for _, i := range of(forNames, forApart, forNear, forJoin, forBoth) {
		l, _ := lists(a)[i]()
		out = append(out, textOf(l))
	}
	number, _ := index.Number(a.s, a.one)
	name, _ := index.Name(a.s, a.number)
	ending, _ := index.Tell(a.l, a.one, a.two)
	many, _ := index.CheckApart(a.l, a.words)
	return append(out, number, name, ending, many)
}

// ask throws something that functions can be asked.
func (d *dice) ask() asked {
	list := func() []string {
		if d.upTo(1) == 0 {
			return d.crossed()
		}
		return d.list(20, 5, 3)
	}
	a := asked{l: list(), m: list(), number: d.upTo(5), most: d.upTo(2)}
	a.s = buildOf(a.m)
	if d.upTo(1) == 0 {
		a.s = d.states(d.from(1, 8), d.from(1, 4))
	}
	word := func(l []string) string {
		if len(l) == 0 || d.upTo(4) == 0 {
			return d.word(5, 3)
		}
		name := l[d.upTo(len(l)-1)]
		return name[:min(len(name), d.from(1, 9))]
	}
	a.one, a.two, a.words = word(a.l), word(a.l), apartOf(a.l)
	switch d.upTo(3) {
	case 0:
		a.one = word(a.m)
	case 1:
		a.words = names(word(a.l), word(a.l))
	}
	return a
}

// TestNilAndEmpty checks R3.
func TestNilAndEmpty(t *testing.T) {
	for i, none := range [][]string{nil, {}} {
		a := right()
		a.l, a.m = none, none
		a.one, a.two, a.words = "", "", none
		expect(t, a, api.ErrNone, forTell, forNumber)
		s, e := index.Build(none)
		isStates(t, s, e)(api.OK, st(0, ""))
		for _, l := range lists(a) {
			a.s = s
			names, e := l()
			if len(names) > 0 && len(names) != 4 || e != api.OK {
				t.Error(i, names, e)
			}
		}
		a = right()
		a.words = none
		expect(t, a, api.OK)
		a = right()
		a.m = none
		expect(t, a, api.OK)
		l, e := index.Join(listL(), none)
		isNames(t, l, e)(api.OK, listL()...)
		l, e = index.Join(none, listL())
		isNames(t, l, e)(api.OK, listL()...)
		l, e = index.Both(listL(), none)
		isNames(t, l, e)(api.OK)
	}
	for _, next := range [][]int{nil, {}} {
		a := right()
		a.s = withState(statesL(), 3, api.IndexState{Ends: 1, Next: next})
		expect(t, a, api.OK)
		a.s = states(api.IndexState{Next: next})
		number, e := index.Number(a.s, "a")
		isOne(t, number, e)(api.ErrNone, 0)
		name, e := index.Name(a.s, 0)
		isOne(t, name, e)(api.ErrRange, "")
	}
	for _, none := range [][]api.IndexState{nil, {}} {
		a := right()
		a.s = none
		expect(t, a, api.ErrMany, withStates()...)
	}
}

// roomy returns a copy of a list with room behind it, in which there is what no function writes.
func roomy[T any](list []T, mark T) []T {
	out := append(slices.Clone(list), slices.Repeat([]T{mark}, 40)...)
	return out[:len(list)]
}

// isRoomy reports whether a list that roomy returned is as it was.
func isRoomy[T comparable](list, before []T, mark T) bool {
	return slices.Equal(list[:len(before)+40], append(slices.Clone(before), slices.Repeat([]T{mark}, 40)...))
}

// roomyStates does the same for an automaton.
func roomyStates(s []api.IndexState) []api.IndexState {
	out := copied(s)
	for i := range out {
		out[i].Next = roomy(out[i].Next, -7)
	}
	return append(out, st(-7, "-"), st(-7, "-"))[:len(s)]
}

func areRoomy(s, before []api.IndexState) bool {
	for i := range before {
		if !isRoomy(s[i].Next, before[i].Next, -7) {
			return false
		}
	}
	return same(s[:len(before)+2], append(copied(before), st(-7, "-"), st(-7, "-")))
}

// scribble writes into all of a list, and all that is behind it.
func scribble[T any](list []T, mark T) {
	list = list[:cap(list)]
	for i := range list {
		list[i] = mark
	}
}

// TestArgumentsStay checks R4: no argument is changed, and a result is new memory.
func TestArgumentsStay(t *testing.T) {
	d := dice(50)
	for range 500 {
		a := d.ask()
		b := a
		b.l, b.m, b.words, b.s = roomy(a.l, "-"), roomy(a.m, "-"), roomy(a.words, "-"), roomyStates(a.s)
		want := told(t, a)
		if list := told(t, b); !slices.Equal(list, want) {
			t.Fatal(a, list, want)
		}
		for _, l := range lists(b) {
			names, _ := l()
			scribble(names, "+")
		}
		s, _ := index.Build(b.l)
		for i := range s {
			scribble(s[i].Next, -9)
		}
		scribble(s, st(-9, "+"))
		if list := told(t, b); !slices.Equal(list, want) {
			t.Fatal("kept:", a, list, want)
		}
		if !isRoomy(b.l, a.l, "-") || !isRoomy(b.m, a.m, "-") || !isRoomy(b.words, a.words, "-") || !areRoomy(b.s, a.s) {
			t.Fatal("changed:", a, b)
		}
	}
}

// TestOneByOne checks that the states of one result share no memory with one another, nor a list with the same one joined.
func TestOneByOne(t *testing.T) {
	for _, l := range anyLists(51, 100) {
		s := buildFor(t, l)
		want := copied(s)
		for i := range s {
			scribble(s[i].Next, -9)
			for k := i + 1; k < len(s); k++ {
				if !sameState(s[k], want[k]) {
					t.Fatal(l, i, k, s, want)
				}
			}
		}
		own := slices.Clone(l)
		for _, list := range [][]string{joinFor(t, l, l), bothFor(t, l, l), joinFor(t, l, nil), joinFor(t, nil, l)} {
			scribble(list, "+")
		}
		if !slices.Equal(l, own) {
			t.Fatal(l, own)
		}
	}
}

// TestAgain checks R9 and R10: equal calls return equal results, whatever the order of a map, and whatever was asked between.
func TestAgain(t *testing.T) {
	d := dice(52)
	var list []asked
	var wants [][]any
	for range 200 {
		a := d.ask()
		list = append(list, a)
		wants = append(wants, told(t, a))
	}
	for range 5 {
		for i, a := range list {
			if l := told(t, a); !slices.Equal(l, wants[i]) {
				t.Fatal(a, l, wants[i])
			}
		}
	}
}

// TestAtOnce checks that calls at the same time do not disturb one another.
func TestAtOnce(t *testing.T) {
	d := dice(53)
	a := d.ask()
	var all sync.WaitGroup
	for range 8 {
		b := d.ask()
		if d.upTo(1) == 0 {
			b = a // the same lists
		}
		want := told(t, b)
		all.Go(func() {
			for range 50 {
				if l := told(t, b); !slices.Equal(l, want) {
					t.Error(b, l, want)
					return
				}
			}
		})
	}
	all.Wait()
}

// TestAnyArguments checks P1: every function ends, and does not panic.
func TestAnyArguments(t *testing.T) {
	numbers := of(math.MinInt64, -1<<32, -3, -2, -1, 0, 1, 2, 3, 4, 5, 30, 31, 300, 301, 1<<32, math.MaxInt64)
	texts := names("", "a", "A", "\xff", "\xc3\xa9", "zzzzzzzzzz", "zzzzzzzzzzz", ",", "b a", strings.Repeat("a", 300), "\x00")
	d := dice(54)
	some := func() int { return numbers[d.upTo(len(numbers)-1)] }
	text := func() string { return texts[d.upTo(len(texts)-1)] }
	for range 5000 {
		a := d.ask()
		a.l, a.m, a.words, a.s = slices.Clone(a.l), slices.Clone(a.m), slices.Clone(a.words), copied(a.s)
		state := func() *api.IndexState { return &a.s[d.upTo(len(a.s)-1)] }
		change := []func(){
			func() { a.l = append(a.l, text()) },
			func() { a.m = slices.Insert(a.m, 0, text()) },
			func() { slices.Reverse(a.l) },
			func() { a.l, a.m = a.m, a.l },
			func() { a.l = slices.Repeat(names(text()), d.upTo(40)) },
			func() { a.words = append(a.words, text()) },
			func() { a.words = slices.Repeat(names(text()), d.from(299, 303)) },
			func() { a.one = text() },
			func() { a.two = text() },
			func() { a.number = some() },
			func() { a.most = some() },
			func() { state().Ends = some() },
			func() { state().Letters = text() },
			func() { state().Next = append(state().Next, some()) },
			func() { s := state(); s.Letters, s.Next = s.Letters+text(), append(s.Next, some()) },
			func() { a.s = a.s[d.upTo(len(a.s)-1):] },
			func() { a.s = d.states(d.from(290, 303), d.from(1, 26)) },
		}
		for range d.from(1, 3) {
			change[d.upTo(len(change)-1)]()
		}
		told(t, a)
	}
	a := right()
	a.l, a.m, a.words = make([]string, 100000), make([]string, 100000), make([]string, 100000)
	a.s = make([]api.IndexState, 100000)
	told(t, a)
	long := strings.Repeat("a", 1<<20)
	told(t, asked{names(long), names(long), states(st(0, long, make([]int, len(long))...)), long, long, names(long), 0, 0})
}

// TestLimits asks for as many names, letters, states and beginnings as there can be, and for one more.
func TestLimits(t *testing.T) {
	for _, l := range [][]string{listMost(), listLong()} {
		best := apartOf(l)
		a := asked{l, l, buildFor(t, l), l[29], l[0], best, 29, 2}
		expect(t, a, api.ErrNone, forTell) // both are names, with no ending but the empty one
		a.two = l[0][:9]
		expect(t, a, api.OK)
		checkLeast(t, l)
		checkRead(t, a.s, append(slices.Clone(l), a.two, ""))
		a.number = 30
		expect(t, a, api.ErrRange, forName)
		a.number, a.most = 29, 3
		expect(t, a, api.ErrRange, forNear)
		a.m = append(slices.Clone(l[1:]), "zz")
		a.most = 2
		expect(t, a, api.ErrMany, forJoin)
		a.l, a.m = append(slices.Clone(l), "zz"), l
		expect(t, a, api.ErrMany, append(withList(), withLists()...)...)
		a.l = append(slices.Clone(l[:29]), "zzzzzzzzzzz")
		expect(t, a, api.ErrLong, append(withList(), withLists()...)...)
	}
	a := right()
	a.words = slices.Repeat(names("b"), 302)
	expect(t, a, api.ErrMany, forCheckApart)
	a.words = a.words[:301]
	expect(t, a, api.ErrWord, forCheckApart)
	a = right()
	a.s = withState(withState(make([]api.IndexState, 301), 0, st(0, "a", 300)), 300, st(1, ""))
	a.one, a.number = "a", 0
	expect(t, a, api.OK)
	a.s = append(a.s, st(0, ""))
	expect(t, a, api.ErrMany, withStates()...)
}
