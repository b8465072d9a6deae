package index_test

import (
	"iter"
	"math"
	"slices"
	"strings"

	"burin/api"
)

// extremes are numbers of which no one is a state, the number of a name, or how much is misread.
var extremes = []int{math.MinInt64, math.MinInt64 + 1, -1 << 62, -1 << 32, -2, 302, 303, 1 << 32, 1 << 62, math.MaxInt64 - 1, math.MaxInt64}

// of is a list of numbers, names one of strings, st a state, states an automaton.
func of(x ...int) []int                           { return x }
func names(x ...string) []string                  { return x }
func states(x ...api.IndexState) []api.IndexState { return x }
func st(ends int, letters string, next ...int) api.IndexState {
	return api.IndexState{Ends: ends, Letters: letters, Next: next}
}

// listL and listM are the lists L and M of the chapter's examples, statesL and statesM their least automata.
func listL() []string { return names("bar", "bat", "car", "cat") }
func listM() []string { return names("a", "ab", "b") }
func statesL() []api.IndexState {
	return states(st(0, "bc", 1, 1), st(0, "a", 2), st(0, "rt", 3, 3), st(1, ""))
}
func statesM() []api.IndexState { return states(st(0, "ab", 1, 2), st(1, "b", 2), st(1, "")) }

// listMost and listLong are lists at the limits: all names of listMost have the same end, those of listLong have hardly anything in
// common, so that there are many states.
func listMost() []string {
	var out []string
	for i := range 30 {
		out = append(out, letter(i/26)+letter(i%26)+"zzzzzzzz")
	}
	return out
}
func listLong() []string {
	var out []string
	for i := range 30 {
		name := letter(i/26) + letter(i%26)
		for k := range 8 {
			name += letter(i*(k+1) + i/(k+1))
		}
		out = append(out, name)
	}
	return out
}

// letter is the letter with a number, counted round.
func letter(i int) string { return string([]byte{'a' + byte(i%26)}) }

// line is an automaton that reads just a word of so many letters a.
func line(letters int) []api.IndexState {
	var s []api.IndexState
	for i := range letters {
		s = append(s, st(0, "a", i+1))
	}
	return append(s, st(1, ""))
}

// fan is an automaton that reads so many words of one letter (up to 26) or of two.
func fan(many int) []api.IndexState {
	ends := slices.Repeat(of(2), min(many, 25))
	s := states(st(0, wordOf(len(ends)), ends...), st(0, ""), st(1, ""))
	if many -= len(ends); many > 0 { // the letter z, and others behind it
		s[0].Letters += "z"
		s[0].Next = append(s[0].Next, 1)
		s[1] = st(0, wordOf(many), slices.Repeat(of(2), many)...)
	}
	return s
}

// wordOf is the first letters, in their order.
func wordOf(many int) string { return "abcdefghijklmnopqrstuvwxyz"[:many] }

// bush is an automaton with so many states, of each of which all letters lead to the next one. Words end at the last one, if ends is 1.
func bush(many, ends int) []api.IndexState {
	var s []api.IndexState
	for i := range many - 1 {
		s = append(s, st(0, wordOf(26), slices.Repeat(of(i+1), 26)...))
	}
	return append(s, st(ends, ""))
}

// same reports whether two automata are the same.
func same(a, b []api.IndexState) bool { return slices.EqualFunc(a, b, sameState) }

// sameState reports whether two states are alike.
func sameState(a, b api.IndexState) bool {
	return a.Ends == b.Ends && a.Letters == b.Letters && slices.Equal(a.Next, b.Next)
}

// copied is an automaton in new memory.
func copied(s []api.IndexState) []api.IndexState {
	out := slices.Clone(s)
	for i := range out {
		out[i].Next = slices.Clone(out[i].Next)
	}
	return out
}

// withState is an automaton in which a state is another one.
func withState(s []api.IndexState, at int, state api.IndexState) []api.IndexState {
	s = copied(s)
	s[at] = state
	return s
}

// dice is a generator of numbers that are the same in each run.
type dice uint64

func (d *dice) upTo(n int) int {
	*d = *d*6364136223846793005 + 1442695040888963407
	return int(uint64(*d)>>33) % (n + 1)
}

func (d *dice) from(a, b int) int { return a + d.upTo(b-a) }

// word throws a word of up to so many of the first letters of the alphabet.
func (d *dice) word(most, letters int) string {
	var s strings.Builder
	for range d.upTo(most) {
		s.WriteString(letter(d.upTo(letters - 1)))
	}
	return s.String()
}

// name throws one that is not empty.
func (d *dice) name(most, letters int) string {
	return letter(d.upTo(letters-1)) + d.word(most-1, letters)
}

// list throws a valid list of up to so many names.
func (d *dice) list(many, most, letters int) []string {
	var out []string
	for range d.upTo(many) {
		out = append(out, d.name(most, letters))
	}
	return sorted(out)
}

// crossed throws a list of names that are put together of two or three parts each, so that many states are alike.
func (d *dice) crossed() []string {
	parts := func() []string {
		var out []string
		for range d.from(1, 3) {
			out = append(out, d.word(3, 4))
		}
		return out
	}
	var out []string
	one, two, three := parts(), parts(), parts()
	for _, a := range one {
		for _, b := range two {
			for _, c := range three {
				if a+b+c != "" && d.upTo(9) > 0 {
					out = append(out, a+b+c)
				}
			}
		}
	}
	return sorted(out)
}

// sorted returns strings in their order, each of them once.
func sorted(list []string) []string {
	list = slices.Clone(list)
	slices.Sort(list)
	return slices.Compact(list)
}

// anyLists throws a number of lists, and adds those of the examples, those at the limits, and a few others.
func anyLists(seed dice, n int) [][]string {
	out := [][]string{listL(), listM(), nil, names("z"), names("abcdefghij"), names("a", "aa", "aaa"), listMost(), listLong()}
	for range n {
		switch seed.upTo(3) {
		case 0:
			out = append(out, seed.list(6, 4, 2))
		case 1:
			out = append(out, seed.list(30, seed.from(1, 10), seed.from(2, 26)))
		default:
			out = append(out, seed.crossed())
		}
	}
	return out
}

// states throws an automaton with so many states, of which some may not be come to, and from some of which no word ends.
func (d *dice) states(many, letters int) []api.IndexState {
	var s []api.IndexState
	for i := range many {
		state := st(0, "")
		if d.upTo(2) == 0 {
			state.Ends = 1
		}
		for k := range letters {
			if i < many-1 && d.upTo(1) == 0 {
				state.Letters += letter(k)
				state.Next = append(state.Next, d.from(i+1, many-1))
			}
		}
		s = append(s, state)
	}
	if d.upTo(3) > 0 {
		s[0].Ends = 0
	}
	return s
}

// allWords returns all words of up to so many of the first letters of the alphabet, shorter ones first.
func allWords(most, letters int) []string {
	out := names("")
	for i := 0; len(out[i]) < most; i++ {
		for k := range letters {
			out = append(out, out[i]+letter(k))
		}
	}
	return out
}

// allLists yields all lists of names of up to so many letters a and b.
func allLists(most int) iter.Seq[[]string] {
	all := sorted(allWords(most, 2)[1:])
	return func(yield func([]string) bool) {
		for which := range 1 << len(all) {
			var l []string
			for i, name := range all {
				if which>>i&1 == 1 {
					l = append(l, name)
				}
			}
			if !yield(l) {
				return
			}
		}
	}
}

// allStates yields all automata with so many states whose letters are a and b.
func allStates(many int) iter.Seq[[]api.IndexState] {
	return func(yield func([]api.IndexState) bool) {
		if many == 0 {
			yield(nil)
			return
		}
		for later := range allStates(many - 1) {
			for a := range many {
				for b := range many {
					for ends := range 2 {
						if !yield(append(states(stateOf(ends, a, b)), moved(later)...)) {
							return
						}
					}
				}
			}
		}
	}
}

// stateOf is a state from which one comes to two others, or to one or none if a number is 0.
func stateOf(ends, a, b int) api.IndexState {
	state := st(ends, "")
	if a > 0 {
		state.Letters += "a"
		state.Next = append(state.Next, a)
	}
	if b > 0 {
		state.Letters += "b"
		state.Next = append(state.Next, b)
	}
	return state
}

// moved is states in new memory, behind one more.
func moved(s []api.IndexState) []api.IndexState {
	s = copied(s)
	for i := range s {
		for k := range s[i].Next {
			s[i].Next[k]++
		}
	}
	return s
}

// stateAfter and all that follows are the chapter's definitions.
// They are there to check what package index finds.

// stateAfter returns the state to which one comes by a word, or -1.
func stateAfter(s []api.IndexState, word string) int {
	at := 0
	for i := range len(word) {
		k := strings.IndexByte(s[at].Letters, word[i])
		if k < 0 {
			return -1
		}
		at = s[at].Next[k]
	}
	return at
}

// reads reports whether an automaton reads a word.
func reads(s []api.IndexState, word string) bool {
	at := stateAfter(s, word)
	return at >= 0 && s[at].Ends == 1
}

// ways yields all words by which one comes to a state, with the state.
func ways(s []api.IndexState) iter.Seq2[string, int] {
	return func(yield func(string, int) bool) {
		at, by := of(0), names("")
		for len(at) > 0 {
			state, word := at[0], by[0]
			at, by = at[1:], by[1:]
			if !yield(word, state) {
				return
			}
			for i, next := range s[state].Next {
				at, by = append(at, next), append(by, word+s[state].Letters[i:i+1])
			}
		}
	}
}

// namesOf returns the list of the words that an automaton reads, or the error of Names.
func namesOf(s []api.IndexState) ([]string, api.Errno) {
	var out []string
	for word, at := range ways(s) {
		if s[at].Ends == 1 {
			out = append(out, word)
		}
	}
	for _, word := range out {
		if len(out) > 30 || len(word) > 10 || word == "" {
			return nil, api.ErrOver
		}
	}
	slices.Sort(out)
	return out, api.OK
}

// isBeginning reports whether a word, with some ending behind it, is a name of a list.
func isBeginning(l []string, word string) bool {
	return slices.ContainsFunc(l, func(name string) bool { return strings.HasPrefix(name, word) })
}

// tellOf returns the ending that tells two words apart, of endings in their order, and whether there is one.
func tellOf(l []string, one, two string, endings []string) (string, bool) {
	for _, ending := range endings {
		if slices.Contains(l, one+ending) != slices.Contains(l, two+ending) {
			return ending, true
		}
	}
	return "", false
}

// endingsOf returns all endings that any word can have that begins a name of a list, shorter ones first.
func endingsOf(l []string) []string {
	out := names("")
	for _, name := range l {
		for i := range len(name) {
			out = append(out, name[i:])
		}
	}
	out = sorted(out)
	slices.SortStableFunc(out, func(a, b string) int { return len(a) - len(b) })
	return out
}

// areBeginnings reports whether words are beginnings.
func areBeginnings(l []string, words []string) bool {
	endings := endingsOf(l)
	for i, one := range words {
		if !isBeginning(l, one) {
			return false
		}
		if slices.ContainsFunc(words[:i], func(two string) bool { return areAlike(l, one, two, endings) }) {
			return false
		}
	}
	return true
}

// apartOf returns the first words of all states of the least automaton of a list, in their order: of all words with which names
// begin those that are told apart from all that are before them.
func apartOf(l []string) []string {
	var all, out []string
	for _, name := range l {
		for i := range len(name) + 1 {
			all = append(all, name[:i])
		}
	}
	endings := endingsOf(l)
	for _, word := range sorted(all) {
		if !slices.ContainsFunc(out, func(other string) bool { return areAlike(l, word, other, endings) }) {
			out = append(out, word)
		}
	}
	slices.SortStableFunc(out, func(a, b string) int { return longestOf(l, b) - longestOf(l, a) })
	return out
}

// areAlike reports whether no ending tells two words apart.
func areAlike(l []string, one, two string, endings []string) bool {
	if longestOf(l, one) != longestOf(l, two) { // the longest ending does
		return false
	}
	_, apart := tellOf(l, one, two, endings)
	return !apart
}

// longestOf returns how long the longest ending is that names of a list have behind a word, -1 if there is none.
func longestOf(l []string, word string) int {
	most := -1
	for _, name := range l {
		if strings.HasPrefix(name, word) {
			most = max(most, len(name)-len(word))
		}
	}
	return most
}

// buildOf returns the least automaton of a list.
func buildOf(l []string) []api.IndexState {
	if len(l) == 0 {
		return states(st(0, ""))
	}
	endings := endingsOf(l)
	words := apartOf(l)
	var out []api.IndexState
	for _, word := range words {
		state := st(0, "")
		if slices.Contains(l, word) {
			state.Ends = 1
		}
		for i := range 26 {
			longer := word + letter(i)
			if !isBeginning(l, longer) {
				continue
			}
			state.Letters += letter(i)
			for k, other := range words {
				if areAlike(l, longer, other, endings) {
					state.Next = append(state.Next, k)
				}
			}
		}
		out = append(out, state)
	}
	return out
}

// changed returns all words that one change makes of some words, with themselves. Letters that no name has are all the same.
func changed(words map[string]bool, letters string) map[string]bool {
	out := map[string]bool{}
	for word := range words {
		out[word] = true
		for i := range len(word) + 1 {
			for k := range len(letters) {
				out[word[:i]+letters[k:k+1]+word[i:]] = true
				if i < len(word) {
					out[word[:i]+letters[k:k+1]+word[i+1:]] = true
				}
			}
			if i < len(word) {
				out[word[:i]+word[i+1:]] = true
			}
		}
	}
	return out
}

// nearOf returns the names of a list that at most so many changes make of a word.
func nearOf(l []string, word string, most int) []string {
	letters := sorted(strings.Split(strings.Join(l, ""), ""))
	all := map[string]bool{word: true}
	for range most {
		all = changed(all, strings.Join(letters, ""))
	}
	var out []string
	for _, name := range l {
		if all[name] {
			out = append(out, name)
		}
	}
	return out
}

// joinOf returns the names that are in two lists together, bothOf those that are in both.
func joinOf(a, b []string) []string { return sorted(slices.Concat(a, b)) }
func bothOf(a, b []string) []string {
	var out []string
	for _, name := range a {
		if slices.Contains(b, name) {
			out = append(out, name)
		}
	}
	return out
}
