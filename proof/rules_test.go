package proof_test

import (
	"math"
	"slices"
	"strconv"
	"strings"
	"sync"
	"testing"

	"burin/api"
	"burin/proof"
)

// results is all lists that functions return.
type results struct {
	marks []api.ProofMarks
	pairs [][2]int
	list  []int
}

// resultsOf returns all lists that functions return.
func resultsOf(a asked) results {
	var r results
	take := func(m api.ProofMarks, _ api.Errno) { r.marks = append(r.marks, m) }
	take(proof.Back(a.text, a.m))
	take(proof.Merge(a.text, a.m, a.n))
	take(proof.Marks(a.a, a.b))
	r.pairs, _ = proof.Common(a.a, a.b)
	r.list, _ = proof.Labels(a.a, a.b)
	return r
}

// overwrite writes into all that results have, and behind it as far as there is room.
func (r results) overwrite() {
	numbers := func(list []int) {
		list = list[:cap(list)]
		for i := range list {
			list[i] = -9
		}
	}
	for _, m := range r.marks {
		numbers(m.Struck)
		added := m.Added[:cap(m.Added)]
		for i := range added {
			added[i] = "written"
		}
	}
	pairs := r.pairs[:cap(r.pairs)]
	for i := range pairs {
		pairs[i] = [2]int{-9, -9}
	}
	numbers(r.list)
}

// told returns all results there are, with their errors, as texts.
func told(t *testing.T, a asked) []string {
	t.Helper()
	var out []string
	number := func(n int, e api.Errno) { out = append(out, strconv.Itoa(n), strconv.Itoa(int(e))) }
	for _, e := range answers(t, a) {
		number(0, e)
	}
	text, n, e := proof.Read(a.text, a.m)
	out = append(out, text)
	number(n, e)
	number(proof.Clash(a.text, a.m, a.n))
	number(proof.Fewest(a.a, a.b))
	number(proof.CheckCommon(a.a, a.b, a.pairs))
	number(proof.CheckLabels(a.a, a.b, a.labels))
	r, e := proof.Unseen(a.one, a.two, a.both, a.share)
	number(int(r.Lo), e)
	number(int(r.Hi), e)
	all := resultsOf(a)
	for _, m := range all.marks {
		for _, x := range m.Struck {
			number(x, api.OK)
		}
		out = append(append(out, "added"), m.Added...)
	}
	for _, x := range all.pairs {
		number(x[0], api.Errno(x[1]))
	}
	for _, x := range all.list {
		number(x, api.OK)
	}
	return out
}

// ask throws something that functions can be asked.
func (d *dice) ask() asked {
	var a asked
	kinds := d.from(1, 5)
	a.text = d.text(12, kinds)
	a.m, a.n = d.marks(a.text, 2, kinds), d.marks(a.text, 1, 1)
	a.a, a.b = d.text(12, kinds), d.text(12, kinds)
	for _, m := range matchesOf(a.a, a.b) {
		if n := len(a.pairs); d.upTo(2) == 0 && (n == 0 || isBefore(a.pairs[n-1], m)) {
			a.pairs = append(a.pairs, m)
		}
		a.labels = append(a.labels, min(m[0], m[1])+1)
	}
	one, two, both, _ := d.faults(50)
	a.one, a.two, a.both, a.share = one, two, both, api.Ratio{Num: 1, Den: int64(d.from(1, 5))}
	return a
}

// TestNilAndEmpty checks R3.
func TestNilAndEmpty(t *testing.T) {
	for i, none := range [][]int{nil, {}} {
		strings := [][]string{nil, {}}[i]
		pairs := [][][2]int{nil, {}}[i]
		a := right()
		a.m.Struck, a.n.Struck, a.pairs = none, none, pairs
		expect(t, a, api.OK)
		a.m.Added = strings
		expect(t, a, api.ErrEqual, ofMarks()...)
		a = right()
		a.n.Added = strings
		expect(t, a, api.ErrEqual, forMerge, forClash)
		a = right()
		a.labels = none
		expect(t, a, api.ErrMany, forCheckLabels)
		a.b, a.pairs = "xyz", pairs
		expect(t, a, api.OK)
		if n, e := proof.CheckCommon("", "", pairs); n != 0 || e != api.OK {
			t.Error(i, n, e)
		}
		if n, e := proof.CheckLabels("", "", none); n != 0 || e != api.OK {
			t.Error(i, n, e)
		}
		if m, e := proof.Merge("", marks(none, ""), marks(none, "")); len(m.Struck) > 0 || !slices.Equal(m.Added, []string{""}) || e != api.OK {
			t.Error(i, m, e)
		}
	}
	if m, e := proof.Marks("", ""); len(m.Struck) > 0 || !slices.Equal(m.Added, []string{""}) || e != api.OK {
		t.Error(m, e)
	}
	if l, e := proof.Common("", ""); len(l) > 0 || e != api.OK {
		t.Error(l, e)
	}
	if l, e := proof.Labels("", ""); len(l) > 0 || e != api.OK {
		t.Error(l, e)
	}
}

// roomy returns a copy of a list with room behind it, in which there is something that no function writes.
func roomy[T any](list []T, x T) []T {
	out := append(slices.Clone(list), slices.Repeat([]T{x}, 50)...)
	return out[:len(list)]
}

// isRoomy reports whether a list that roomy returned is as it was.
func isRoomy[T comparable](list, before []T, x T) bool {
	return slices.Equal(list[:len(before)+50], append(slices.Clone(before), slices.Repeat([]T{x}, 50)...))
}

// TestArgumentsStay checks R4: no argument is changed, and a result is new memory.
func TestArgumentsStay(t *testing.T) {
	d := dice(50)
	mark := func(m api.ProofMarks) api.ProofMarks {
		return api.ProofMarks{Struck: roomy(m.Struck, -7), Added: roomy(m.Added, "odd")}
	}
	isMarked := func(m, before api.ProofMarks) bool {
		return isRoomy(m.Struck, before.Struck, -7) && isRoomy(m.Added, before.Added, "odd")
	}
	for range 2000 {
		a := d.ask()
		if d.upTo(2) == 0 {
			a.n = blank(a.text) // what both are merged to is the first marks, in other memory
		}
		b := a
		b.m, b.n, b.pairs, b.labels = mark(a.m), mark(a.n), roomy(a.pairs, [2]int{-7, -7}), roomy(a.labels, -7)
		want := told(t, b)
		resultsOf(b).overwrite()
		if again := told(t, b); !slices.Equal(again, want) {
			t.Fatal("kept:", a, again, want)
		}
		if !isMarked(b.m, a.m) || !isMarked(b.n, a.n) || !isRoomy(b.pairs, a.pairs, [2]int{-7, -7}) || !isRoomy(b.labels, a.labels, -7) {
			t.Fatal("changed:", a, b)
		}
	}
}

// TestAgain checks R9 and R10: equal calls return equal results, whatever the order of a map, and whatever was asked between.
func TestAgain(t *testing.T) {
	d := dice(51)
	var list []asked
	var wants [][]string
	for range 300 {
		a := d.ask()
		list = append(list, a)
		wants = append(wants, told(t, a))
	}
	for range 5 {
		for i, a := range list {
			if l := told(t, a); !slices.Equal(l, wants[i]) {
				t.Fatal(a, l, wants[i])
			}
		}
	}
}

// TestAtOnce checks that calls at the same time do not disturb one another.
func TestAtOnce(t *testing.T) {
	d := dice(52)
	var all sync.WaitGroup
	for range 8 {
		a := d.ask()
		want := told(t, a)
		all.Go(func() {
			for range 100 {
				if l := told(t, a); !slices.Equal(l, want) {
					t.Error(a, l, want)
					return
				}
			}
		})
	}
	all.Wait()
}

// TestAnyArguments checks P1: every function ends, and does not panic.
func TestAnyArguments(t *testing.T) {
	numbers := []int{math.MinInt, -1 << 40, -2, -1, 0, 1, 2, 3, 4, 5, 6, 11, 12, 13, 14, 999, 1000, 1001, 1 << 32, 1 << 40, math.MaxInt}
	d := dice(53)
	some := func() int { return numbers[d.upTo(len(numbers)-1)] }
	someList := func(most int) []int {
		list := make([]int, d.upTo(most))
		for i := range list {
			list[i] = some()
		}
		return list
	}
	for range 10000 {
		a := d.ask()
		change := []func(){
			func() { a.text = long(d.upTo(15)) },
			func() { a.m = d.spoil(a.m) },
			func() { a.n = d.spoil(a.n) },
			func() { a.m.Struck = someList(14) },
			func() { a.n.Struck = someList(3) },
			func() { a.m.Added = make([]string, d.upTo(14)) },
			func() { a.a = long(d.upTo(15)) },
			func() { a.b = d.text(15, 2) },
			func() { a.pairs = append(a.pairs[:len(a.pairs)/2], [2]int{some(), some()}) },
			func() { a.pairs = two(slices.Repeat(someList(5), 2)...) },
			func() { a.labels = someList(150) },
			func() { a.labels = append(a.labels[:len(a.labels)/2], someList(len(a.labels))...) },
			func() { a.one = int64(some()) },
			func() { a.two, a.both = int64(some()), int64(some()) },
			func() { a.share.Num = int64(some()) },
			func() { a.share.Den = int64(some()) },
		}
		for range d.from(1, 3) {
			change[d.upTo(len(change)-1)]()
		}
		told(t, a)
	}
	numbers, texts := make([]int, 100000), make([]string, 100000)
	a := right()
	a.m, a.n = marks(numbers, texts...), marks(numbers, texts...)
	a.pairs, a.labels = make([][2]int, 100000), numbers
	told(t, a)
	a.text, a.a, a.b = strings.Repeat("x", 99999), strings.Repeat("x", 100000), strings.Repeat("x", 100000)
	told(t, a)
	a.text, a.m, a.n = "", marks(numbers, strings.Repeat("x", 100000)), marks(numbers, "")
	told(t, a)
	told(t, asked{})
}

// TestLimits asks for texts of as many letters as there can be, and as many faults, and for one more.
func TestLimits(t *testing.T) {
	all := of(0, 1, 2, 3, 4, 5, 6, 7, 8, 9, 10, 11)
	var pairs, matches [][2]int
	var labels []int
	for i := range 12 {
		pairs = append(pairs, [2]int{i, i})
		for k := range 12 {
			matches, labels = append(matches, [2]int{i, k}), append(labels, min(i, k)+1)
		}
	}
	a := asked{
		text: long(12), m: marks(all, append(make([]string, 12), long(12))...), n: marks(all, make([]string, 13)...),
		a: long(12), b: long(12), pairs: pairs, labels: labels, one: 1000, two: 1000, both: 1000, share: api.Ratio{Num: 1000, Den: 1000},
	}
	expect(t, a, api.OK)
	if n, e := proof.CheckLabels(a.a, a.b, labels); n != 12 || len(labels) != 144 || e != api.OK {
		t.Error(n, e)
	}
	if l, e := proof.Labels(a.a, a.b); !slices.Equal(l, labels) || e != api.OK {
		t.Error(l, e)
	}
	if l, e := proof.Common(a.a, a.b); !slices.Equal(l, pairs) || e != api.OK {
		t.Error(l, e)
	}
	change := func(errno api.Errno, which []int, change func(a *asked)) {
		t.Helper()
		a := a
		change(&a)
		expect(t, a, errno, which...)
	}
	change(api.ErrLong, ofMarks(), func(a *asked) { a.text = long(13) })
	change(api.ErrLong, ofMarks(), func(a *asked) { a.m.Added = append(make([]string, 12), long(13)) })
	change(api.ErrLong, of(forMerge, forClash), func(a *asked) { a.n.Added = append(make([]string, 12), long(13)) })
	change(api.ErrLong, of(forBack), func(a *asked) { a.m.Struck = all[1:] }) // 13 letters, as one more is left
	change(api.ErrRange, ofMarks(), func(a *asked) { a.m.Struck = append(slices.Clone(all), 12) })
	change(api.ErrLong, ofTexts(), func(a *asked) { a.a = long(13) })
	change(api.ErrLong, ofTexts(), func(a *asked) { a.b = long(13) })
	change(api.ErrRange, of(forCheckCommon), func(a *asked) { a.pairs = append(slices.Clone(pairs), [2]int{12, 12}) })
	change(api.ErrSum, of(forCheckCommon), func(a *asked) { a.pairs = matches })
	change(api.ErrMany, of(forCheckLabels), func(a *asked) { a.labels = append(slices.Clone(labels), 12) })
	change(api.ErrRange, of(forCheckLabels), func(a *asked) { a.labels = append(slices.Clone(labels[:143]), 13) })
	change(api.ErrSum, of(forCheckLabels), func(a *asked) { a.labels = append(slices.Clone(labels[:143]), 11) })
	change(api.ErrArg, of(forUnseen), func(a *asked) { a.one = 1001 })
	change(api.ErrArg, of(forUnseen), func(a *asked) { a.two = 1001 })
	change(api.ErrArg, of(forUnseen), func(a *asked) { a.one, a.two, a.both = 1001, 1001, 1001 })
	change(api.ErrRange, of(forUnseen), func(a *asked) { a.share.Den = 1001 })
	change(api.ErrRange, of(forUnseen), func(a *asked) { a.share.Num = 1001 })
	change(api.ErrSum, of(forUnseen), func(a *asked) { a.both = 999 })
	change(api.OK, nil, func(a *asked) { a.share.Num = 1 })
}
