package index

import (
	"cmp"
	"iter"
	"maps"
	"slices"
	"strings"

	"burin/api"
)

// alphabet is all letters, in their order.
const alphabet = "abcdefghijklmnopqrstuvwxyz"

// counts is how often each letter is there.
type counts [len(alphabet)]int

// count counts by which letters endings begin.
func (c *counts) count(endings iter.Seq[string]) {
	clear(c[:])
	for ending := range endings {
		if ending != "" {
			c[ending[0]-'a']++
		}
	}
}

// form is what a state is kept by.
type form struct {
	word    string // by which one comes to it
	endings string // all that names have behind the word, with a comma behind each, so that no two lists make the same text
	long    int    // letters of the longest one
}

// form returns the form of a state to which one comes by a word.
func (l list) form(word string) form {
	f := form{word: word}
	for ending := range l.endings(word) {
		f.endings += ending + ","
		f.long = max(f.long, len(ending))
	}
	return f
}

// isAlike reports whether nothing tells two states apart.
func (f form) isAlike(other form) bool { return f.endings == other.endings }

// order compares two forms: the longer one comes first, then that with the first word.
func order(one, two form) int {
	return cmp.Or(cmp.Compare(two.long, one.long), strings.Compare(one.word, two.word))
}

// shelf is a list, with the states of its least automaton: for each, how many names go on by each letter behind its word.
type shelf struct {
	list
	states map[form]counts
	forms  []form // of the states, in their order
}

// shelfFor returns the shelf of a list, or its error.
func shelfFor(l []string) (*shelf, api.Errno) {
	if e := CheckList(l); e != api.OK {
		return nil, e
	}
	s := &shelf{list: list{l}, states: map[form]counts{}}
	var goOn counts
	for word := range s.beginnings() {
		goOn.count(s.endings(word))
		s.states[s.form(word)] = goOn
	}
	s.merge()
	return s, api.OK
}

// beginnings yields the empty word, also if there are no names, and all others with which names begin, each of them once.
func (s *shelf) beginnings() iter.Seq[string] {
	return func(yield func(string) bool) {
		if !yield("") {
			return
		}
		before := ""
		for _, name := range s.names {
			for i := range len(name) {
				if word := name[:i+1]; !strings.HasPrefix(before, word) && !yield(word) {
					return
				}
			}
			before = name
		}
	}
}

// merge deletes each state that is like one before it: what leads to it leads to that one.
func (s *shelf) merge() {
	came := map[string]bool{}
	for _, f := range slices.SortedFunc(maps.Keys(s.states), order) {
		if came[f.endings] {
			delete(s.states, f)
			continue
		}
		came[f.endings] = true
		s.forms = append(s.forms, f)
	}
}

// automaton returns the least automaton, in new memory.
func (s *shelf) automaton() []api.IndexState {
	var out []api.IndexState
	for _, f := range s.forms {
		var state api.IndexState
		if s.has(f.word) {
			state.Ends = 1
		}
		for i, many := range s.states[f] {
			if many > 0 {
				letter := alphabet[i : i+1]
				state.Letters += letter
				state.Next = append(state.Next, slices.IndexFunc(s.forms, s.form(f.word+letter).isAlike))
			}
		}
		out = append(out, state)
	}
	return out
}

// words returns the word of each state, the first one by which one comes to it.
func (s *shelf) words() []string {
	if s.states[s.forms[0]] == (counts{}) { // as of an empty list: no name goes through its state
		return nil
	}
	var out []string
	for _, f := range s.forms {
		out = append(out, f.word)
	}
	return out
}
