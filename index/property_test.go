package index_test

import (
	"slices"
	"testing"

	"burin/api"
	"burin/index"
)

// buildFor, namesFor, apartFor, nearFor, joinFor and bothFor are results of package index that have no error.
func buildFor(t *testing.T, l []string) []api.IndexState {
	t.Helper()
	s, e := index.Build(l)
	if e != api.OK || index.CheckStates(s) != api.OK {
		t.Fatal(l, s, e)
	}
	return s
}
func namesFor(t *testing.T, s []api.IndexState) []string {
	t.Helper()
	l, e := index.Names(s)
	return listFor(t, l, e)
}
func apartFor(t *testing.T, l []string) []string {
	t.Helper()
	words, e := index.Apart(l)
	if e != api.OK {
		t.Fatal(l, e)
	}
	return words
}
func nearFor(t *testing.T, l []string, word string, most int) []string {
	t.Helper()
	near, e := index.Near(l, word, most)
	return listFor(t, near, e)
}
func joinFor(t *testing.T, a, b []string) []string {
	t.Helper()
	l, e := index.Join(a, b)
	return listFor(t, l, e)
}
func bothFor(t *testing.T, a, b []string) []string {
	t.Helper()
	l, e := index.Both(a, b)
	return listFor(t, l, e)
}

// listFor returns a list that a function returned, if it is valid.
func listFor(t *testing.T, l []string, e api.Errno) []string {
	t.Helper()
	if e != api.OK || index.CheckList(l) != api.OK {
		t.Fatal(l, e)
	}
	return l
}

// tellFor returns whether two words are told apart, by which ending.
func tellFor(t *testing.T, l []string, one, two string) (string, bool) {
	t.Helper()
	w, e := index.Tell(l, one, two)
	if e != api.OK && (e != api.ErrNone || w != "") {
		t.Fatal(l, one, two, w, e)
	}
	return w, e == api.OK
}

// TestP11_10_Least tries all automata of up to four states, and others.
func TestP11_10_Least(t *testing.T) {
	needed := map[string]int{}
	check := func(s []api.IndexState) {
		l, e := index.Names(s)
		if e != api.OK || len(l) == 0 {
			return
		}
		key := textOf(l)
		if _, has := needed[key]; !has {
			words := apartFor(t, l)
			needed[key] = len(words)
			if n, e := index.CheckApart(l, words); n != len(words) || e != api.OK || len(buildFor(t, l)) != len(words) {
				t.Fatal(l, words, n, e)
			}
		}
		if len(s) < needed[key] {
			t.Fatal(l, s, needed[key])
		}
	}
	for many := range 5 {
		for s := range allStates(many) {
			check(s)
		}
	}
	d := dice(20)
	for range 20000 {
		check(d.states(d.from(2, 8), d.from(1, 4)))
	}
	if len(needed) < 1000 {
		t.Error(len(needed))
	}
}

// textOf is a text that no other list of words has.
func textOf(words []string) string {
	text := ""
	for _, word := range words {
		text += word + ","
	}
	return text
}

func TestP11_11_Read(t *testing.T) {
	for _, l := range anyLists(21, 1000) {
		if names := namesFor(t, buildFor(t, l)); !slices.Equal(names, l) {
			t.Fatal(l, names)
		}
	}
	d := dice(22)
	merged := 0
	for range 5000 {
		s := d.states(d.from(1, 10), d.from(1, 4))
		l, e := index.Names(s)
		if e != api.OK {
			continue
		}
		least := buildFor(t, l)
		if len(least) < len(s) {
			merged++
		}
		for word, at := range ways(s) {
			if reads(least, word) != (s[at].Ends == 1) {
				t.Fatal(s, least, word)
			}
		}
		for word, at := range ways(least) {
			if reads(s, word) != (least[at].Ends == 1) {
				t.Fatal(s, least, word)
			}
		}
	}
	if merged < 1000 {
		t.Error(merged)
	}
}

func TestP11_12_Numbered(t *testing.T) {
	d := dice(23)
	var some [][]api.IndexState
	for _, l := range anyLists(24, 300) {
		some = append(some, buildFor(t, l))
	}
	for range 1000 {
		some = append(some, d.states(d.from(1, 8), d.from(1, 4)))
	}
	for _, s := range some {
		l, _ := index.Names(s)
		before := ""
		for number := range l {
			name, e := index.Name(s, number)
			n, err := index.Number(s, name)
			if n != number || e != api.OK || err != api.OK || name <= before {
				t.Fatal(s, number, name, n, e, err)
			}
			before = name
		}
		for _, name := range l {
			number, e := index.Number(s, name)
			if again, err := index.Name(s, number); again != name || e != api.OK || err != api.OK {
				t.Fatal(s, name, number, again, e, err)
			}
		}
	}
}

func TestP11_13_Told(t *testing.T) {
	d := dice(25)
	apart, alike := 0, 0
	for _, l := range anyLists(26, 300) {
		words := append(d.list(5, 4, 4), "", "a", "ab", "b")
		for _, name := range l {
			words = append(words, name[:d.upTo(min(len(name), 9))])
		}
		for _, one := range words {
			for _, two := range words {
				ending, told := tellFor(t, l, one, two)
				if other, also := tellFor(t, l, two, one); other != ending || also != told {
					t.Fatal(l, one, two, ending, told, other, also)
				}
				if told {
					apart++
					continue
				}
				for i := range 26 {
					if one != two && len(one) < 10 && len(two) < 10 {
						alike++
						if ending, told := tellFor(t, l, one+letter(i), two+letter(i)); told {
							t.Fatal(l, one, two, ending)
						}
					}
				}
			}
		}
	}
	if apart < 5000 || alike < 5000 {
		t.Error(apart, alike)
	}
}

func TestP11_14_Near(t *testing.T) {
	d := dice(27)
	more, one, two := 0, 0, 0
	for _, l := range anyLists(28, 300) {
		for _, word := range append(slices.Clone(l), d.word(5, 3), d.word(10, 4), "") {
			if near := nearFor(t, l, word, 0); !slices.Equal(near, bothOf(l, names(word))) {
				t.Fatal(l, word, near)
			}
			for most := range 2 {
				less, greater := nearFor(t, l, word, most), nearFor(t, l, word, most+1)
				if !slices.Equal(less, bothOf(less, greater)) {
					t.Fatal(l, word, less, greater)
				}
				if len(less) < len(greater) {
					more++
				}
			}
			near := nearFor(t, l, word, 1)
			for _, name := range near {
				one++
				if others := nearFor(t, l, name, 2); !slices.Equal(near, bothOf(near, others)) {
					t.Fatal(l, word, near, name, others)
				}
				if slices.Contains(nearFor(t, l, name, 1), word) != slices.Contains(l, word) {
					t.Fatal(l, word, near, name)
				}
				two += len(near) - 1
			}
		}
	}
	if more < 1000 || one < 1000 || two < 1000 {
		t.Error(more, one, two)
	}
}

func TestP11_15_Joined(t *testing.T) {
	lists := anyLists(29, 300)
	common := 0
	for i, a := range lists {
		if l := joinFor(t, a, a); !slices.Equal(l, a) {
			t.Fatal(a, l)
		}
		if l := bothFor(t, a, a); !slices.Equal(l, a) {
			t.Fatal(a, l)
		}
		for _, b := range lists[:i] {
			both := bothFor(t, a, b)
			if l := bothFor(t, b, a); !slices.Equal(l, both) {
				t.Fatal(a, b, both, l)
			}
			if len(a)+len(b)-len(both) > api.MaxIndexNames {
				l, e := index.Join(a, b)
				m, err := index.Join(b, a)
				if e != api.ErrMany || err != api.ErrMany || len(l) > 0 || len(m) > 0 {
					t.Fatal(a, b, l, m, e, err)
				}
				continue
			}
			join := joinFor(t, a, b)
			if l := joinFor(t, b, a); !slices.Equal(l, join) || len(join)+len(both) != len(a)+len(b) {
				t.Fatal(a, b, both, join, l)
			}
			if len(both) > 0 && len(both) < min(len(a), len(b)) {
				common++
			}
		}
	}
	if common < 1000 {
		t.Error(common)
	}
}

func TestP11_16_Longer(t *testing.T) {
	d := dice(30)
	for _, l := range anyLists(31, 500) {
		if len(l) == 0 || slices.ContainsFunc(l, func(name string) bool { return len(name) == 10 }) {
			continue
		}
		front := letter(d.upTo(25))
		var longer []string
		for _, name := range l {
			longer = append(longer, front+name)
		}
		s, more := buildFor(t, l), buildFor(t, longer)
		if len(more) != len(s)+1 || !same(more, append(states(st(0, front, 1)), moved(s)...)) {
			t.Fatal(l, front, s, more)
		}
	}
}

func TestP11_17_Sorted(t *testing.T) {
	for _, l := range anyLists(32, 1000) {
		s := buildFor(t, l)
		for i, one := range s {
			if slices.ContainsFunc(s[:i], func(other api.IndexState) bool { return sameState(one, other) }) {
				t.Fatal(l, s, one)
			}
		}
	}
}
