package index_test

import (
	"math"
	"slices"
	"strings"
	"testing"

	"burin/api"
	"burin/index"
)

// asked is what functions are asked.
type asked struct {
	l, m         []string
	s            []api.IndexState
	one, two     string
	words        []string
	number, most int
}

// right is something for which no function has an error.
func right() asked {
	return asked{listL(), listM(), statesL(), "bar", "ba", names("", "c", "bat"), 3, 1}
}

// The indexes of the errors that answers returns.
const (
	forCheckList = iota
	forBuild
	forCheckStates
	forNames
	forNumber
	forName
	forTell
	forCheckApart
	forApart
	forNear
	forJoin
	forBoth
	functions
)

// withList are the functions with one list, withLists those with two, withStates those with an automaton.
func withList() []int {
	return of(forCheckList, forBuild, forTell, forCheckApart, forApart, forNear)
}
func withLists() []int  { return of(forJoin, forBoth) }
func withStates() []int { return of(forCheckStates, forNames, forNumber, forName) }

// answers calls each function, and returns the errors. It reports other results that are not zero, together with an error.
func answers(t *testing.T, a asked) [functions]api.Errno {
	t.Helper()
	var e [functions]api.Errno
	var zero [functions]bool
	e[forCheckList], zero[forCheckList] = index.CheckList(a.l), true
	e[forCheckStates], zero[forCheckStates] = index.CheckStates(a.s), true
	s, err := index.Build(a.l)
	e[forBuild], zero[forBuild] = err, len(s) == 0
	number, err := index.Number(a.s, a.one)
	e[forNumber], zero[forNumber] = err, number == 0
	name, err := index.Name(a.s, a.number)
	e[forName], zero[forName] = err, name == ""
	ending, err := index.Tell(a.l, a.one, a.two)
	e[forTell], zero[forTell] = err, ending == ""
	many, err := index.CheckApart(a.l, a.words)
	e[forCheckApart], zero[forCheckApart] = err, many == 0
	for i, l := range lists(a) {
		list, err := l()
		e[i], zero[i] = err, len(list) == 0
	}
	for i := range e {
		if e[i] != api.OK && !zero[i] {
			t.Error("a result with an error:", i, e[i], a)
		}
	}
	return e
}

// lists are the functions that return names or words, and what they are asked.
func lists(a asked) map[int]func() ([]string, api.Errno) {
	return map[int]func() ([]string, api.Errno){
		forNames: func() ([]string, api.Errno) { return index.Names(a.s) },
		forApart: func() ([]string, api.Errno) { return index.Apart(a.l) },
		forNear:  func() ([]string, api.Errno) { return index.Near(a.l, a.one, a.most) },
		forJoin:  func() ([]string, api.Errno) { return index.Join(a.l, a.m) },
		forBoth:  func() ([]string, api.Errno) { return index.Both(a.l, a.m) },
	}
}

// expect checks that functions return an error, and all others none.
func expect(t *testing.T, a asked, errno api.Errno, which ...int) {
	t.Helper()
	for i, e := range answers(t, a) {
		want := api.OK
		if slices.Contains(which, i) {
			want = errno
		}
		if e != want {
			t.Error("function", i, e, "not", want, a)
		}
	}
}

func TestRight(t *testing.T) {
	expect(t, right(), api.OK)
}

// wrongList is a list that is not valid, with its error.
type wrongList struct {
	l []string
	e api.Errno
}

func wrongLists() []wrongList {
	long := strings.Repeat("a", 11)
	most := listMost()
	out := []wrongList{
		{append(most, "zz"), api.ErrMany}, {make([]string, 31), api.ErrMany}, {slices.Repeat(names(long), 31), api.ErrMany},
		{slices.Repeat(names("A"), 1000), api.ErrMany}, {append(names("a"), most...), api.ErrMany},
		{names(long), api.ErrLong}, {names("b", long), api.ErrLong}, {names("", "b", "b", "B", long), api.ErrLong}, {names("", long), api.ErrLong},
		{names(strings.Repeat("A", 11), "a"), api.ErrLong}, {append(most[:29:29], most[29]+"z"), api.ErrLong}, {names("aaaaaaaaa\xc3\xa9"), api.ErrLong},
		{names(strings.Repeat("\xff", 100000)), api.ErrLong},
		{names(""), api.ErrForm}, {names("", "a"), api.ErrForm}, {names("b", "a", ""), api.ErrForm}, {append(names(""), most[:29]...), api.ErrForm},
		{names("a", "B"), api.ErrForm}, {names("b", "b", "a "), api.ErrForm}, {names("\xc3\xa9"), api.ErrForm}, {names("aaaaaaaa\xc3\xa9"), api.ErrForm},
		{names("b", "a"), api.ErrRule}, {names("a", "a"), api.ErrRule}, {names("ab", "a"), api.ErrRule}, {names("a", "c", "b", "d"), api.ErrRule},
		{names("a", "b", "c", "c"), api.ErrRule}, {append(most[1:30:30], "aa"), api.ErrRule}, {slices.Repeat(names("z"), 30), api.ErrRule},
		{names("b", "aaaaaaaaaa"), api.ErrRule},
	}
	for b := range 256 {
		if b < 'a' || b > 'z' {
			other := string([]byte{byte(b)})
			out = append(out, wrongList{names(other), api.ErrForm}, wrongList{names("a", "b"+other, "a"), api.ErrForm}, wrongList{names("aa", other+"a"), api.ErrForm})
		}
	}
	return out
}

func TestWrongLists(t *testing.T) {
	for i, w := range wrongLists() {
		a := right()
		a.l = w.l
		expect(t, a, w.e, append(withList(), withLists()...)...)
		a.one, a.two, a.most = "A", strings.Repeat("a", 11), -1 // the error of the list comes first
		a.words = slices.Repeat(names(strings.Repeat("a", 11)), 302)
		for k, e := range answers(t, a) {
			if slices.Contains(withList(), k) && e != w.e {
				t.Error(i, k, e, "not", w.e)
			}
		}
		a = right()
		a.m = w.l
		expect(t, a, w.e, withLists()...)
	}
	// the first one of two lists that are not valid
	for _, one := range wrongLists() {
		for _, two := range wrongLists()[:20] {
			if l, e := index.Join(one.l, two.l); len(l) > 0 || e != one.e {
				t.Error(one, two, l, e)
			}
			if l, e := index.Both(one.l, two.l); len(l) > 0 || e != one.e {
				t.Error(one, two, l, e)
			}
		}
	}
}

func TestCheckList(t *testing.T) {
	for _, l := range append(anyLists(1, 300), names(), names("a"), names("z"), names("a", "aa", "aab", "ab", "abcdefghij", "abcdefghik", "b"), names(wordOf(10))) {
		if e := index.CheckList(l); e != api.OK {
			t.Error(l, e)
		}
	}
	// pairs of names in any order
	all := allWords(3, 2)[1:]
	for _, one := range all {
		for _, two := range all {
			want := api.OK
			if one >= two {
				want = api.ErrRule
			}
			if e := index.CheckList(names(one, two)); e != want {
				t.Error(one, two, e)
			}
			if e := index.CheckList(names("a", "aaaa", one, two, "c")); (e == api.OK) != (one < two && one > "aaaa") {
				t.Error(one, two, e)
			}
		}
	}
}

// checkLeast checks Build, Apart, Names, Number and Name for a list.
func checkLeast(t *testing.T, l []string) {
	t.Helper()
	s := buildFor(t, l)
	if want := buildOf(l); !same(s, want) {
		t.Fatal(l, s, "not", want)
	}
	if words := apartFor(t, l); !slices.Equal(words, apartOf(l)) {
		t.Fatal(l, words)
	}
	if names := namesFor(t, s); !slices.Equal(names, l) {
		t.Fatal(l, names)
	}
}

func TestSmallLists(t *testing.T) {
	i := 0
	for l := range allLists(3) {
		if i++; i%5 == 0 || len(l) < 5 {
			checkLeast(t, l)
		}
	}
}

func TestBuild(t *testing.T) {
	for _, l := range anyLists(2, 400) {
		checkLeast(t, l)
	}
	for i, c := range []struct {
		l []string
		s []api.IndexState
	}{
		{nil, states(st(0, ""))},
		{names("z"), states(st(0, "z", 1), st(1, ""))},
		{names("a", "z"), states(st(0, "az", 1, 1), st(1, ""))},
		{names("abc"), states(st(0, "a", 1), st(0, "b", 2), st(0, "c", 3), st(1, ""))},
		{names("a", "aa"), states(st(0, "a", 1), st(1, "a", 2), st(1, ""))},
		{names("aa", "b", "bba"), states(st(0, "ab", 2, 1), st(1, "b", 2), st(0, "a", 3), st(1, ""))}, // the longer one first
		{names("ab", "ba"), states(st(0, "ab", 1, 2), st(0, "b", 3), st(0, "a", 3), st(1, ""))},       // then that of the first word
		{names("aab", "bb", "cab"), states(st(0, "abc", 1, 2, 1), st(0, "a", 2), st(0, "b", 3), st(1, ""))},
		{names("ab", "baa", "bb"), states(st(0, "ab", 2, 1), st(0, "ab", 3, 4), st(0, "b", 4), st(0, "a", 4), st(1, ""))},
	} {
		s, e := index.Build(c.l)
		isStates(t, s, e)(api.OK, c.s...)
		if want := buildOf(c.l); !same(want, c.s) {
			t.Error(i, want, "not", c.s)
		}
	}
}

// TestOrder checks the order of states, by all words that lead to them.
func TestOrder(t *testing.T) {
	ties := 0
	for _, l := range anyLists(3, 500) {
		s := buildFor(t, l)
		firsts := make([]string, len(s))
		long := make([]int, len(s))
		come := make([]bool, len(s))
		for word, at := range ways(s) {
			if !come[at] || word < firsts[at] {
				firsts[at], come[at] = word, true
			}
		}
		for at, state := range slices.Backward(s) {
			for _, next := range state.Next {
				long[at] = max(long[at], long[next]+1)
			}
		}
		for at := 1; at < len(s); at++ {
			if !come[at] || long[at] > long[at-1] || long[at] == long[at-1] && firsts[at] <= firsts[at-1] {
				t.Fatal(l, s, firsts, long)
			}
			if long[at] == long[at-1] {
				ties++
			}
		}
		if words := apartFor(t, l); len(l) > 0 && !slices.Equal(words, firsts) {
			t.Fatal(l, words, firsts)
		}
	}
	if ties < 1000 {
		t.Error(ties)
	}
}

// wrongStates is an automaton that is not valid, with its error.
type wrongStates struct {
	s []api.IndexState
	e api.Errno
}

func wrongAutomata() []wrongStates {
	l := statesL()
	out := []wrongStates{
		{nil, api.ErrMany}, {states(), api.ErrMany}, {make([]api.IndexState, 302), api.ErrMany}, {slices.Repeat(states(st(2, "A")), 302), api.ErrMany},
		{make([]api.IndexState, 100000), api.ErrMany},
		{states(st(2, "")), api.ErrArg}, {states(st(-1, "")), api.ErrArg}, {withState(l, 3, st(2, "")), api.ErrArg},
		{append(states(st(0, "A")), st(0, "a", 0), st(0, "", 2), st(2, "")), api.ErrArg}, // in the last state
		{states(st(0, "a"), st(0, "")), api.ErrEqual}, {states(st(0, "", 1), st(0, "")), api.ErrEqual}, {states(st(0, "a", 1, 1), st(0, "")), api.ErrEqual},
		{states(st(0, "ab", 1), st(0, "")), api.ErrEqual}, {states(st(0, "A", 1), st(0, "a", 0), st(0, "a")), api.ErrEqual},
		{states(st(0, "a", 9), st(0, "A", 9), st(0, "ab", 9)), api.ErrEqual}, {states(st(0, strings.Repeat("a", 100000))), api.ErrEqual},
		{states(st(0, "A", 1), st(0, "")), api.ErrForm}, {states(st(0, "aa", 1, 1), st(0, "")), api.ErrForm}, {states(st(0, "ba", 1, 1), st(0, "")), api.ErrForm},
		{states(st(0, "aba", 1, 1, 1), st(0, "")), api.ErrForm}, {states(st(0, "a", 0), st(0, "ab", -1, 9), st(0, "a{", 7, 7)), api.ErrForm},
		{states(st(0, "\xc3\xa9", 1, 1), st(0, "")), api.ErrForm}, {withState(l, 3, st(1, "Z", 4)), api.ErrForm},
		{states(st(0, strings.Repeat("a", 100000), make([]int, 100000)...)), api.ErrForm},
		{states(st(0, "a", 0)), api.ErrRange}, {states(st(0, "a", 1)), api.ErrRange}, {states(st(0, "a", -1), st(0, "")), api.ErrRange},
		{states(st(0, "a", 2), st(0, "")), api.ErrRange}, {states(st(0, "a", 1), st(0, "a", 1)), api.ErrRange}, {states(st(0, "a", 1), st(0, "a", 0)), api.ErrRange},
		{withState(l, 2, st(0, "rt", 3, 2)), api.ErrRange}, {withState(l, 2, st(0, "rt", 3, 4)), api.ErrRange}, {withState(l, 3, st(1, "a", 0)), api.ErrRange},
		{withState(l, 3, st(1, "a", 4)), api.ErrRange}, {withState(l, 1, st(0, "a", 1)), api.ErrRange},
	}
	for _, x := range extremes {
		out = append(out,
			wrongStates{withState(l, 2, st(x, "rt", 3, 3)), api.ErrArg}, wrongStates{withState(l, 0, st(x, "A", x, x)), api.ErrArg},
			wrongStates{withState(l, 2, st(0, "rt", 3, x)), api.ErrRange}, wrongStates{withState(l, 0, st(0, "bc", x, 1)), api.ErrRange})
	}
	for b := range 256 {
		if b < 'a' || b > 'z' {
			out = append(out, wrongStates{withState(l, 1, st(0, string([]byte{byte(b)}), 2)), api.ErrForm})
		}
	}
	return out
}

func TestWrongStates(t *testing.T) {
	for _, w := range wrongAutomata() {
		a := right()
		a.s = w.s
		expect(t, a, w.e, withStates()...)
		for _, name := range names("A", "", strings.Repeat("a", 11)) { // the error of the automaton comes first
			a.one, a.number = name, -1
			for k, e := range answers(t, a) {
				if slices.Contains(withStates(), k) && e != w.e {
					t.Error(w, k, e)
				}
			}
		}
	}
}

func TestCheckStates(t *testing.T) {
	d := dice(4)
	for i, s := range [][]api.IndexState{
		statesL(), statesM(), states(st(0, "")), states(st(1, "")), bush(301, 1), bush(301, 0), line(300), fan(30), make([]api.IndexState, 301),
		states(st(1, "az", 2, 1), st(1, "m", 2), st(1, "")), states(st(0, ""), st(1, "a", 2), st(1, "")), states(st(0, wordOf(26), slices.Repeat(of(1), 26)...), st(0, "")),
		d.states(301, 26), append(states(st(0, "ab", 300, 299)), make([]api.IndexState, 300)...),
	} {
		if e := index.CheckStates(s); e != api.OK {
			t.Error(i, e)
		}
	}
	for s := range allStates(3) {
		if e := index.CheckStates(s); e != api.OK {
			t.Fatal(s, e)
		}
	}
}

// checkRead checks Names, Number and Name for an automaton, with words that are read or not.
func checkRead(t *testing.T, s []api.IndexState, words []string) {
	t.Helper()
	want, errno := namesOf(s)
	if l, e := index.Names(s); !slices.Equal(l, want) || e != errno {
		t.Fatal(s, l, e, "not", want, errno)
	}
	for _, word := range words {
		number, e := index.Number(s, word)
		switch k := slices.Index(want, word); {
		case errno != api.OK:
			if number != 0 || e != errno {
				t.Fatal(s, word, number, e)
			}
		case k < 0:
			if number != 0 || e != api.ErrNone {
				t.Fatal(s, word, number, e)
			}
		case number != k || e != api.OK:
			t.Fatal(s, word, number, e, "not", k)
		}
	}
	for number := -2; number < len(want)+2; number++ {
		name, e := index.Name(s, number)
		switch {
		case errno != api.OK:
			if name != "" || e != errno {
				t.Fatal(s, number, name, e)
			}
		case number < 0 || number >= len(want):
			if name != "" || e != api.ErrRange {
				t.Fatal(s, number, name, e)
			}
		case name != want[number] || e != api.OK:
			t.Fatal(s, number, name, e, "not", want)
		}
	}
}

func TestSmallStates(t *testing.T) {
	words := allWords(4, 2)
	for many := 1; many < 5; many++ {
		i := 0
		for s := range allStates(many) {
			if i++; many < 4 || i%7 == 0 {
				checkRead(t, s, words)
			}
		}
	}
}

func TestStates(t *testing.T) {
	d := dice(5)
	over := 0
	for range 2000 {
		s := d.states(d.from(1, 14), d.from(1, 4))
		words := names("", "a", "zz")
		for word := range ways(s) {
			if len(word) < 10 && len(words) < 100 {
				words = append(words, word, word+"b")
			}
		}
		checkRead(t, s, words)
		if _, e := index.Names(s); e == api.ErrOver {
			over++
		}
	}
	if over < 150 || over > 1500 {
		t.Error(over)
	}
}

// TestOver checks the limits of what an automaton may read.
func TestOver(t *testing.T) {
	for i, c := range []struct {
		s    []api.IndexState
		many int
		e    api.Errno
	}{
		{fan(1), 1, api.OK}, {fan(25), 25, api.OK}, {fan(29), 29, api.OK}, {fan(30), 30, api.OK}, {fan(31), 0, api.ErrOver}, {fan(51), 0, api.ErrOver},
		{line(1), 1, api.OK}, {line(9), 1, api.OK}, {line(10), 1, api.OK}, {line(11), 0, api.ErrOver}, {line(300), 0, api.ErrOver},
		{line(0), 0, api.ErrOver}, {states(st(1, "a", 1), st(1, "")), 0, api.ErrOver}, {states(st(1, "a", 1), st(0, "")), 0, api.ErrOver}, // the empty word
		{bush(2, 1), 26, api.OK}, {bush(3, 1), 0, api.ErrOver}, {bush(10, 1), 0, api.ErrOver}, {bush(301, 1), 0, api.ErrOver},
		{bush(3, 0), 0, api.OK}, {bush(301, 0), 0, api.OK}, // more ways than can be gone, but no word
		{append(states(st(0, "ab", 1, 301-1)), append(moved(bush(299, 0)), st(1, ""))...), 1, api.OK},
		{append(states(st(0, "")), moved(bush(300, 1))...), 0, api.OK},        // to which one does not come
		{append(states(st(0, "a", 300)), moved(bush(300, 1))...), 1, api.OK},  // but to the last one
		{append(states(st(0, "a", 299)), moved(bush(300, 1))...), 26, api.OK}, // and to the one before it
		{append(states(st(0, "a", 298)), moved(bush(300, 1))...), 0, api.ErrOver},
		{withState(line(20), 10, st(1, "")), 1, api.OK}, {withState(line(20), 10, st(1, "a", 20)), 0, api.ErrOver},
		{withState(withState(line(20), 10, st(1, "a", 11)), 20, st(0, "")), 1, api.OK}, // what comes behind is no word
		{append(slices.Repeat(states(st(0, "")), 300), st(1, "")), 0, api.OK},
	} {
		l, e := index.Names(c.s)
		if len(l) != c.many || e != c.e || c.e == api.OK && index.CheckList(l) != api.OK {
			t.Error(i, l, e)
		}
		for _, name := range append(slices.Clone(l), "q", "", "A", strings.Repeat("a", 11)) {
			want := c.e
			switch {
			case want != api.OK || slices.Contains(l, name):
			case name == "A":
				want = api.ErrForm
			case len(name) > 10:
				want = api.ErrLong
			default:
				want = api.ErrNone
			}
			if n, e := index.Number(c.s, name); e != want || n != max(slices.Index(l, name), 0) {
				t.Error(i, name, n, e)
			}
		}
		for number := range c.many + 1 {
			want := c.e
			if want == api.OK && number == c.many {
				want = api.ErrRange
			}
			if name, e := index.Name(c.s, number); e != want || e == api.OK && name != l[number] {
				t.Error(i, number, name, e)
			}
		}
	}
}

// wrongWords are words with their errors.
func wrongWords() map[string]api.Errno {
	out := map[string]api.Errno{
		strings.Repeat("a", 11): api.ErrLong, strings.Repeat("A", 11): api.ErrLong, strings.Repeat("\xff", 100000): api.ErrLong, "barbarbarb\x00": api.ErrLong,
		"A": api.ErrForm, "bar ": api.ErrForm, " bar": api.ErrForm, "b-r": api.ErrForm, "\xc3\xa9": api.ErrForm, "aaaaaaaaaA": api.ErrForm, ",": api.ErrForm,
	}
	for b := range 256 {
		if b < 'a' || b > 'z' {
			out[string([]byte{byte(b)})] = api.ErrForm
			out["b"+string([]byte{byte(b)})+"r"] = api.ErrForm
		}
	}
	return out
}

func TestWrongWords(t *testing.T) {
	for word, errno := range wrongWords() {
		a := right()
		a.one = word
		expect(t, a, errno, forNumber, forTell, forNear)
		a.most = 3 // that of the word comes first
		expect(t, a, errno, forNumber, forTell, forNear)
		a = right()
		a.two = word
		expect(t, a, errno, forTell)
		for other, e := range wrongWords() {
			if ending, first := index.Tell(listL(), word, other); ending != "" || first != errno {
				t.Error(word, other, ending, first)
			}
			if n, first := index.CheckApart(listL(), names("x", "x", other, "bar", word)); n != 0 || first != e {
				t.Error(word, other, n, first)
			}
		}
		for _, words := range [][]string{names(word), names("", word), names("x", "x", word), append(slices.Repeat(names("a"), 300), word)} {
			a = right()
			a.words = words
			expect(t, a, errno, forCheckApart)
		}
	}
}

func TestNumberErrors(t *testing.T) {
	for _, word := range names("", "b", "ba", "bars", "cab", "ca", "x", "a", "tac", "aaaaaaaaaa", "bat"+"aaaaaaa") {
		if n, e := index.Number(statesL(), word); n != 0 || e != api.ErrNone {
			t.Error(word, n, e)
		}
		if n, e := index.Number(states(st(0, "")), word); n != 0 || e != api.ErrNone {
			t.Error(word, n, e)
		}
	}
	for _, number := range append(of(-1, 4, 5), extremes...) {
		a := right()
		a.number = number
		expect(t, a, api.ErrRange, forName)
		if name, e := index.Name(states(st(0, "")), number); name != "" || e != api.ErrRange {
			t.Error(number, name, e)
		}
	}
	if name, e := index.Name(states(st(0, "")), 0); name != "" || e != api.ErrRange {
		t.Error(name, e)
	}
}

// checkTell checks Tell for two words.
func checkTell(t *testing.T, l []string, one, two string, endings []string) bool {
	t.Helper()
	want, apart := tellOf(l, one, two, endings)
	if ending, told := tellFor(t, l, one, two); ending != want || told != apart {
		t.Fatal(l, one, two, ending, told, "not", want, apart)
	}
	return apart
}

func TestTell(t *testing.T) {
	words := allWords(4, 2) // also all endings, shorter ones first
	i := 0
	for l := range allLists(3) {
		if i++; i%31 == 0 || len(l) < 3 {
			for _, one := range words {
				for _, two := range names("", "a", "ab", "bb", "aba", "bbbb") {
					checkTell(t, l, one, two, words)
				}
			}
		}
	}
	d := dice(6)
	for _, l := range anyLists(7, 100) {
		endings := endingsOf(l)
		beginnings := append(apartOf(l), "x", d.word(10, 3))
		for range 200 {
			checkTell(t, l, beginnings[d.upTo(len(beginnings)-1)], beginnings[d.upTo(len(beginnings)-1)], endings)
		}
	}
}

func TestTellWords(t *testing.T) {
	for i, c := range []struct {
		l        []string
		one, two string
		ending   string
		e        api.Errno
	}{
		{listL(), "ba", "", "r", api.OK}, {listL(), "", "b", "ar", api.OK}, {listL(), "bar", "bat", "", api.ErrNone}, {listL(), "b", "b", "", api.ErrNone},
		{listL(), "bar", "", "", api.OK}, // the empty ending
		{listL(), "", "x", "bar", api.OK}, {listL(), "x", "y", "", api.ErrNone}, {listL(), "barr", "catt", "", api.ErrNone}, {listL(), "barr", "cat", "", api.OK},
		{names("ab", "b"), "a", "", "ab", api.OK}, {names("ab", "ac", "b"), "a", "", "c", api.OK},
		{names("aaaa", "ab", "b"), "a", "", "ab", api.OK},    // both have b behind them
		{names("ab", "ac", "baa"), "a", "b", "b", api.OK},    // the shorter one
		{names("abz", "aca", "bd"), "a", "b", "d", api.OK},   // of the second word
		{names("abz", "aca", "bda"), "a", "b", "bz", api.OK}, // the first one of those that are as short
		{names("aaaaaaaaaa"), "", "x", "aaaaaaaaaa", api.OK}, // ten letters
		{names("aaaaaaaaaa"), "aaaaaaaaaa", "aaaaaaaaa", "", api.OK},
		{nil, "", "a", "", api.ErrNone}, {nil, "", "", "", api.ErrNone},
	} {
		ending, e := index.Tell(c.l, c.one, c.two)
		isOne(t, ending, e)(c.e, c.ending)
		if want, apart := tellOf(c.l, c.one, c.two, endingsOf(c.l)); want != c.ending || apart != (c.e == api.OK) {
			t.Error(i, want, apart)
		}
	}
}

// checkApart checks CheckApart for words.
func checkApart(t *testing.T, l []string, words []string) bool {
	t.Helper()
	n, e := index.CheckApart(l, words)
	if areBeginnings(l, words) {
		if n != len(words) || e != api.OK {
			t.Fatal(l, words, n, e)
		}
		return true
	}
	if n != 0 || e != api.ErrWord {
		t.Fatal(l, words, n, e)
	}
	return false
}

func TestCheckApart(t *testing.T) {
	d := dice(8)
	right, wrong := 0, 0
	for _, l := range anyLists(9, 300) {
		best := apartOf(l)
		for range 30 {
			var words []string
			for range d.upTo(4) {
				switch {
				case d.upTo(9) == 0:
					words = append(words, d.word(4, 3))
				case d.upTo(2) == 0 && len(l) > 0:
					name := l[d.upTo(len(l)-1)]
					words = append(words, name[:d.upTo(len(name))])
				case len(best) > 0:
					words = append(words, best[d.upTo(len(best)-1)])
				}
			}
			if checkApart(t, l, words) {
				right++
			} else {
				wrong++
			}
		}
	}
	if right < 1000 || wrong < 1000 {
		t.Error(right, wrong)
	}
}

// TestApartMost checks that all that Apart returns are beginnings, in any order, and no word can be put beside them.
func TestApartMost(t *testing.T) {
	for _, l := range anyLists(10, 200) {
		words := apartFor(t, l)
		back := slices.Clone(words)
		slices.Reverse(back)
		for _, list := range [][]string{words, back} {
			if n, e := index.CheckApart(l, list); n != len(words) || e != api.OK {
				t.Fatal(l, list, n, e)
			}
		}
		for _, more := range append(slices.Clone(l), words...) {
			if n, e := index.CheckApart(l, append(slices.Clone(words), more)); n != 0 || e != api.ErrWord {
				t.Fatal(l, words, more, n, e)
			}
		}
	}
}

func TestApartErrors(t *testing.T) {
	for i, c := range []struct {
		l, words []string
		n        int
		e        api.Errno
	}{
		{listL(), nil, 0, api.OK}, {listL(), names(""), 1, api.OK}, {listL(), names("cat", "ca", "c", ""), 4, api.OK}, {listL(), names("x"), 0, api.ErrWord},
		{listL(), names("barr"), 0, api.ErrWord}, {listL(), names("b", "b"), 0, api.ErrWord}, {listL(), names("b", "x", "c"), 0, api.ErrWord},
		{nil, nil, 0, api.OK}, {nil, names(""), 0, api.ErrWord}, {nil, names("a"), 0, api.ErrWord}, {nil, names("A"), 0, api.ErrForm},
		{listL(), slices.Repeat(names("b"), 301), 0, api.ErrWord}, {listL(), slices.Repeat(names("b"), 302), 0, api.ErrMany},
		{listL(), slices.Repeat(names("B"), 301), 0, api.ErrForm}, {listL(), slices.Repeat(names("B"), 302), 0, api.ErrMany},
		{nil, make([]string, 302), 0, api.ErrMany}, {nil, make([]string, 301), 0, api.ErrWord}, {nil, make([]string, 100000), 0, api.ErrMany},
	} {
		if n, e := index.CheckApart(c.l, c.words); n != c.n || e != c.e {
			t.Error(i, n, e)
		}
	}
}

// checkNear checks Near for a word.
func checkNear(t *testing.T, l []string, word string) {
	t.Helper()
	for most := range 3 {
		if near, want := nearFor(t, l, word, most), nearOf(l, word, most); !slices.Equal(near, want) {
			t.Fatal(l, word, most, near, "not", want)
		}
	}
}

func TestNear(t *testing.T) {
	words := allWords(4, 2)
	l := sorted(words[1:])
	for _, word := range append(words, allWords(3, 3)...) {
		checkNear(t, l, word)
	}
	d := dice(11)
	for _, l := range anyLists(12, 60) {
		word := d.word(6, 4)
		if len(l) > 0 && d.upTo(3) > 0 { // a name that is misread
			word = l[d.upTo(len(l)-1)]
			for range 2 {
				i := d.upTo(len(word))
				word = word[:i] + d.word(1, 4) + word[min(len(word), i+d.upTo(1)):]
			}
			word = word[:min(len(word), 10)]
		}
		checkNear(t, l, word)
	}
}

func TestNearWords(t *testing.T) {
	for i, c := range []struct {
		l    []string
		word string
		most int
		near []string
	}{
		{listL(), "bar", 0, names("bar")}, {listL(), "cab", 0, nil}, {listL(), "", 0, nil}, {listL(), "", 2, nil}, {names("a", "ab", "abc"), "", 2, names("a", "ab")},
		{listL(), "bart", 1, names("bar", "bat")}, {listL(), "brat", 1, names("bat")}, {listL(), "rab", 2, listL()}, {listL(), "arb", 2, names("bar", "car")},
		{names("ab", "abcd"), "abc", 1, names("ab", "abcd")}, {names("abcdefghij", "bcdefghija"), "abcdefghij", 2, names("abcdefghij", "bcdefghija")},
		{names("abcdefghij", "bcdefghija"), "abcdefghij", 1, names("abcdefghij")}, {names("abcdefghij"), "abcdefgh", 2, names("abcdefghij")},
		{names("abcdefghij"), "abcdefg", 2, nil}, {names("aaaaaaaaaa", "b"), "aaaaaaaaab", 1, names("aaaaaaaaaa")}, {nil, "a", 2, nil},
	} {
		near, e := index.Near(c.l, c.word, c.most)
		isNames(t, near, e)(api.OK, c.near...)
		if want := nearOf(c.l, c.word, c.most); !slices.Equal(want, c.near) {
			t.Error(i, want)
		}
	}
	for _, most := range append(of(-1, 3, math.MaxInt32), extremes...) {
		a := right()
		a.most = most
		expect(t, a, api.ErrRange, forNear)
		if near, e := index.Near(nil, "", most); len(near) > 0 || e != api.ErrRange {
			t.Error(most, near, e)
		}
	}
}

// checkJoin checks Join and Both for two lists.
func checkJoin(t *testing.T, a, b []string) {
	t.Helper()
	want, errno := joinOf(a, b), api.OK
	if len(want) > 30 {
		want, errno = nil, api.ErrMany
	}
	if l, e := index.Join(a, b); !slices.Equal(l, want) || e != errno {
		t.Fatal(a, b, l, e, "not", want, errno)
	}
	if l, e := index.Both(a, b); !slices.Equal(l, bothOf(a, b)) || e != api.OK {
		t.Fatal(a, b, l, e)
	}
}

func TestJoin(t *testing.T) {
	for a := range allLists(2) {
		for b := range allLists(2) {
			checkJoin(t, a, b)
		}
	}
	lists := anyLists(13, 150)
	for _, a := range lists {
		for _, b := range lists {
			checkJoin(t, a, b)
		}
	}
}

// TestJoinMost joins lists to as many names as there can be, and to one more.
func TestJoinMost(t *testing.T) {
	all := listMost()
	for many := range 31 {
		for _, from := range of(0, many/2, many) {
			l := joinFor(t, all[:many], all[from:])
			isNames(t, l, api.OK)(api.OK, all...)
			l = bothFor(t, all[:many], all[from:])
			isNames(t, l, api.OK)(api.OK, all[from:many]...)
		}
	}
	l, e := index.Join(all, names("zz"))
	isNames(t, l, e)(api.ErrMany)
	l, e = index.Join(names("zz"), all)
	isNames(t, l, e)(api.ErrMany)
	l, e = index.Join(all, listLong())
	isNames(t, l, e)(api.ErrMany)
	l, e = index.Both(all, append(names("aa"), all[1:]...))
	isNames(t, l, e)(api.OK, all[1:]...)
}
