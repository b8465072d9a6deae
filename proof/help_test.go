package proof_test

import (
	"math"
	"slices"
	"strings"

	"burin/api"
)

// extremes are numbers of which no one is a letter, a label, how many faults there are, or a part of a share.
var extremes = []int{math.MinInt, math.MinInt + 1, -1 << 40, -1 << 32, 1 << 32, 1 << 40, math.MaxInt - 1, math.MaxInt}

// of is a list, marks is marks: letters that are struck, and what is added before each letter, and at the end.
func of(x ...int) []int { return x }
func marks(struck []int, added ...string) api.ProofMarks {
	return api.ProofMarks{Struck: struck, Added: added}
}

// two is a list of pairs: two numbers for each.
func two(x ...int) [][2]int {
	var out [][2]int
	for i := 0; i < len(x); i += 2 {
		out = append(out, [2]int{x[i], x[i+1]})
	}
	return out
}

// marksA to marksD are the marks A to D of the chapter's examples.
func marksA() api.ProofMarks { return marks(of(4), "", "", "", "", "", "nt") }
func marksB() api.ProofMarks { return marks(of(0), "A", "", "", "", "", "") }
func marksC() api.ProofMarks { return marks(nil, "", "", "", "", "", "x") }
func marksD() api.ProofMarks { return marks(of(0), "n", "") }

// blank is marks of a text that neither strike nor add anything.
func blank(text string) api.ProofMarks { return marks(nil, make([]string, len(text)+1)...) }

// long is a text of so many letters.
func long(n int) string { return strings.Repeat("x", n) }

func same(m, n api.ProofMarks) bool {
	return slices.Equal(m.Struck, n.Struck) && slices.Equal(m.Added, n.Added)
}
func isZero(m api.ProofMarks) bool { return len(m.Struck) == 0 && len(m.Added) == 0 }

// copyOf is marks with lists of their own.
func copyOf(m api.ProofMarks) api.ProofMarks {
	return marks(slices.Clone(m.Struck), slices.Clone(m.Added)...)
}

// dice is a generator of numbers that are the same in each run.
type dice uint64

func (d *dice) upTo(n int) int {
	*d = *d*6364136223846793005 + 1442695040888963407
	return int(uint64(*d)>>33) % (n + 1)
}

func (d *dice) from(a, b int) int { return a + d.upTo(b-a) }

// letters are bytes for texts, some of which are no characters.
const letters = "ab\xe9\x00c\xffdef\x80gh"

// text throws a text of up to so many letters, that has only some bytes.
func (d *dice) text(most, kinds int) string {
	var out []byte
	for range d.upTo(most) {
		out = append(out, letters[d.upTo(kinds-1)])
	}
	return string(out)
}

// marks throws marks of a text, that add strings of up to so many letters at some places.
func (d *dice) marks(text string, most, kinds int) api.ProofMarks {
	m, some := blank(text), d.from(1, 4)
	for i := range text {
		if d.upTo(some) == 0 {
			m.Struck = append(m.Struck, i)
		}
	}
	for i := range m.Added {
		if d.upTo(some) == 0 {
			m.Added[i] = d.text(most, kinds)
		}
	}
	return m
}

// noted is a text with marks of it.
type noted struct {
	text string
	m    api.ProofMarks
}

// notes throws a number of texts with marks, and adds those of the examples.
func notes(seed dice, n int) []noted {
	out := []noted{{"atlas", marksA()}, {"atlas", marksB()}, {"atlas", marksC()}, {"s", marksD()}, {"", marks(nil, "")}}
	for len(out) < n {
		text := seed.text(12, seed.from(1, 5))
		out = append(out, noted{text, seed.marks(text, seed.from(1, 4), seed.from(1, 5))})
	}
	return out
}

// couples throws a number of couples of texts, of up to so many letters each, and adds those of the examples. Some of
// the second texts come from the first ones by a few marks.
func couples(seed dice, n, most int) [][2]string {
	out := [][2]string{{"engrave", "graven"}, {"plate", "plate"}, {"", "ab"}, {"", ""}}
	for len(out) < n {
		kinds := seed.from(1, 6)
		a, b := seed.text(most, kinds), seed.text(most, kinds)
		if seed.upTo(1) == 0 {
			b = markedOf(a, seed.marks(a, 2, kinds))
		}
		if len(b) <= most {
			out = append(out, [2]string{a, b})
		}
	}
	return out
}

// allTexts returns all texts of up to so many letters, with so many different bytes.
func allTexts(most, kinds int) []string {
	list := []string{""}
	longest := list
	for range most {
		var longer []string
		for _, s := range longest {
			for k := range kinds {
				longer = append(longer, s+letters[k:k+1])
			}
		}
		list, longest = append(list, longer...), longer
	}
	return list
}

// allMarks returns all marks of a text that add strings of a list.
func allMarks(text string, strings []string) []api.ProofMarks {
	list := []api.ProofMarks{{}}
	for place := range len(text) + 1 {
		var more []api.ProofMarks
		for _, m := range list {
			for _, s := range strings {
				m := marks(m.Struck, append(slices.Clone(m.Added), s)...)
				more = append(more, m)
				if place < len(text) {
					more = append(more, marks(append(slices.Clone(m.Struck), place), m.Added...))
				}
			}
		}
		list = more
	}
	return list
}

// errorOf and all that follows are the chapter's definitions.
// They are there to check what package proof finds.

// errorOf tells the error of what may be marks of a text.
func errorOf(text string, m api.ProofMarks) api.Errno {
	tooLong := func(s string) bool { return len(s) > 12 }
	switch {
	case tooLong(text):
		return api.ErrLong
	case len(m.Added) != len(text)+1:
		return api.ErrEqual
	case slices.ContainsFunc(m.Added, tooLong):
		return api.ErrLong
	}
	for i, x := range m.Struck {
		if x < 0 || x >= len(text) || i > 0 && x <= m.Struck[i-1] {
			return api.ErrRange
		}
	}
	return api.OK
}

// markedOf returns the marked text: the last strings are put in first, so that the places before them stay.
func markedOf(text string, m api.ProofMarks) string {
	for i := len(m.Added) - 1; i >= 0; i-- {
		behind := text[i:]
		if slices.Contains(m.Struck, i) {
			behind = behind[1:]
		}
		text = text[:i] + m.Added[i] + behind
	}
	return text
}

// numberOf returns the number of marks.
func numberOf(m api.ProofMarks) int { return len(m.Struck) + len(strings.Join(m.Added, "")) }

// backOf returns the marks that turn marks back: it counts where in the marked text it is what was added and struck.
func backOf(text string, m api.ProofMarks) api.ProofMarks {
	back := blank(markedOf(text, m))
	for i, s := range m.Added {
		before := len(strings.Join(m.Added[:i], ""))
		for k := range i {
			if !slices.Contains(m.Struck, k) {
				before++
			}
		}
		for k := range len(s) {
			back.Struck = append(back.Struck, before+k)
		}
		if slices.Contains(m.Struck, i) {
			back.Added[before+len(s)] += text[i : i+1]
		}
	}
	return back
}

// clashOf returns the first place at which marks contradict each other, -1 if there is none.
func clashOf(m, n api.ProofMarks) int {
	for i := range m.Added {
		if !slices.Contains([]string{"", m.Added[i]}, n.Added[i]) && m.Added[i] != "" {
			return i
		}
	}
	return -1
}

// mergedOf returns what marks are merged to.
func mergedOf(m, n api.ProofMarks) api.ProofMarks {
	out := marks(slices.Concat(m.Struck, n.Struck))
	slices.Sort(out.Struck)
	out.Struck = slices.Compact(out.Struck)
	for i := range m.Added {
		out.Added = append(out.Added, max(m.Added[i], n.Added[i])) // the empty string is less than all others
	}
	return out
}

// matchesOf returns all matches, in their order.
func matchesOf(a, b string) [][2]int {
	var out [][2]int
	for i := range len(a) {
		for k := range len(b) {
			if a[i] == b[k] {
				out = append(out, [2]int{i, k})
			}
		}
	}
	return out
}

// isBefore tells whether both letters of a pair are less than those of another one.
func isBefore(x, y [2]int) bool { return x[0] < y[0] && x[1] < y[1] }

// partsOf returns all common parts, from the empty one on.
func partsOf(a, b string) [][][2]int {
	list := [][][2]int{nil}
	for _, m := range matchesOf(a, b) {
		for _, part := range list {
			if len(part) == 0 || isBefore(part[len(part)-1], m) {
				list = append(list, append(slices.Clone(part), m))
			}
		}
	}
	return list
}

// isIn tells whether a text is left of another one when some letters are struck.
func isIn(part, text string) bool {
	for i := 0; i < len(text) && part != ""; i++ {
		if text[i] == part[0] {
			part = part[1:]
		}
	}
	return part == ""
}

// longestOf returns how many pairs a common part has at most: it strikes letters of the first text in all ways.
func longestOf(a, b string) int {
	most := 0
	for mask := range 1 << len(a) {
		var part []byte
		for i := range len(a) {
			if mask>>i&1 == 1 {
				part = append(part, a[i])
			}
		}
		if len(part) > most && isIn(string(part), b) {
			most = len(part)
		}
	}
	return most
}

// fewestOf returns the least number of marks that make a text another one.
func fewestOf(a, b string) int { return len(a) + len(b) - 2*longestOf(a, b) }

// labelsOf returns for each match how many pairs a common part has at most whose last pair it is.
func labelsOf(a, b string) []int {
	var out []int
	for _, m := range matchesOf(a, b) {
		out = append(out, longestOf(a[:m[0]], b[:m[1]])+1)
	}
	return out
}

// labelError tells the error of what may be labels.
func labelError(a, b string, labels []int) api.Errno {
	matches := matchesOf(a, b)
	if len(labels) != len(matches) {
		return api.ErrMany
	}
	for _, x := range labels {
		if x < 1 || x > 12 {
			return api.ErrRange
		}
	}
	for i, x := range matches {
		for k, y := range matches {
			if isBefore(x, y) && labels[i] >= labels[k] {
				return api.ErrSum
			}
		}
	}
	return api.OK
}

// partError tells the error of what may be a common part.
func partError(a, b string, pairs [][2]int) api.Errno {
	for _, x := range pairs {
		if x[0] < 0 || x[0] >= len(a) || x[1] < 0 || x[1] >= len(b) {
			return api.ErrRange
		}
	}
	for _, x := range pairs {
		if a[x[0]] != b[x[1]] {
			return api.ErrEqual
		}
	}
	for i := 1; i < len(pairs); i++ {
		if !isBefore(pairs[i-1], pairs[i]) {
			return api.ErrSum
		}
	}
	return api.OK
}

// unseenOf tries all numbers of all faults, from how many were found on.
func unseenOf(one, two, both int64, share api.Ratio) (api.Range, api.Errno) {
	r, e := api.Range{}, api.ErrSum
	seen := one + two - both
	for all := seen; all*share.Num <= one*share.Den && all*share.Num <= two*share.Den; all++ {
		if e != api.OK {
			r.Lo = all - seen
		}
		r.Hi, e = all-seen, api.OK
	}
	return r, e
}
