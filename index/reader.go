package index

import (
	"iter"
	"slices"

	"burin/api"
)

// reader is a valid automaton, and what it reads from each state on: how many words, and how long the longest one is.
type reader struct {
	states []api.IndexState
	many   []int // more than can be names are counted as one more than can be
	long   []int
}

// readerFor returns the reader of an automaton, or the error of Names.
func readerFor(s []api.IndexState) (*reader, api.Errno) {
	if e := CheckStates(s); e != api.OK {
		return nil, e
	}
	r := &reader{s, make([]int, len(s)), make([]int, len(s))}
	for at, state := range slices.Backward(s) { // the next ones are all behind it
		r.many[at] = state.Ends
		for _, next := range state.Next {
			r.many[at] = min(r.many[at]+r.many[next], api.MaxIndexNames+1)
			if r.many[next] > 0 {
				r.long[at] = max(r.long[at], r.long[next]+1)
			}
		}
	}
	if r.many[0] > api.MaxIndexNames || r.long[0] > api.MaxIndexLetters || s[0].Ends == 1 {
		return nil, api.ErrOver
	}
	return r, api.OK
}

// names returns all words that the automaton reads, in their order.
func (r *reader) names() []string { return slices.Collect(r.words(0, nil)) }

// words yields all words that are read from a state on, with the letters by which one came to it, in their order.
func (r *reader) words(at int, came []byte) iter.Seq[string] {
	return func(yield func(string) bool) {
		state := r.states[at]
		if state.Ends == 1 && !yield(string(came)) {
			return
		}
		for i, next := range state.Next {
			if r.many[next] == 0 { // there may be more ways than can be gone that end at no word
				continue
			}
			for word := range r.words(next, append(came[:len(came):len(came)], state.Letters[i])) {
				if !yield(word) {
					return
				}
			}
		}
	}
}

// number returns how many words before a word are read, and whether it is read itself.
func (r *reader) number(word string) (int, bool) {
	at, before := 0, 0
search:
	for i := range len(word) {
		state := r.states[at]
		before += state.Ends
		for k, next := range state.Next {
			if state.Letters[k] == word[i] {
				at = next
				continue search
			}
			before += r.many[next]
		}
		return 0, false
	}
	return before, r.states[at].Ends == 1
}

// endsWrong reports whether the Ends of a state is neither 0 nor 1.
func endsWrong(s api.IndexState) bool { return !within(0, 1, s.Ends) }

// isUnequal reports whether a state has not as many next ones as letters.
func isUnequal(s api.IndexState) bool { return len(s.Next) != len(s.Letters) }

// hasWrongLetters reports whether letters of a state are none, or are not strictly increasing.
func hasWrongLetters(s api.IndexState) bool {
	return !areLetters(s.Letters) || !increases([]byte(s.Letters))
}
