package proof

import (
	"cmp"
	"iter"
	"maps"
	"slices"

	"burin/api"
)

// texts is two texts whose common parts are looked for.
type texts struct {
	first, second string
}

// match is a letter of each of two texts; both are the same byte, but for what is still to be checked.
type match struct {
	first, second int
}

// part is a common part.
type part []match

// lengths is how many pairs common parts have at most, by how many letters of the second text they may be of.
type lengths [api.MaxProofText + 1]int

// textsFor returns two texts, or their error.
func textsFor(a, b string) (texts, api.Errno) {
	if !areTexts(a, b) {
		return texts{}, api.ErrLong
	}
	return texts{a, b}, api.OK
}

// lacks reports whether the texts do not have the letters of a match.
func (t texts) lacks(m match) bool {
	return !within(0, len(t.first)-1, m.first) || !within(0, len(t.second)-1, m.second)
}

// differs reports whether the letters of a match are not the same byte.
func (t texts) differs(m match) bool { return t.first[m.first] != t.second[m.second] }

// isBefore reports whether a match can come before another one in a common part.
func (m match) isBefore(other match) bool {
	return m.first < other.first && m.second < other.second
}

// matches yields all matches, in their order.
func (t texts) matches() iter.Seq[match] {
	return func(yield func(match) bool) {
		for i := range len(t.first) {
			for k := range len(t.second) {
				m := match{i, k}
				if !t.differs(m) && !yield(m) {
					return
				}
			}
		}
	}
}

// labels returns for each match how many pairs a common part has at most whose last pair it is.
func (t texts) labels() map[match]int {
	labels := map[match]int{}
	var most, ending lengths // of parts of the letters of the first text that came, and of those that end with the next one
	for i := range len(t.first) {
		clear(ending[:])
		for k := range len(t.second) {
			m := match{i, k}
			if !t.differs(m) {
				ending[k+1] = most[k] + 1
				labels[m] = ending[k+1]
			}
		}
		if ending != (lengths{}) {
			most.raise(ending)
		}
	}
	return labels
}

// raise puts in the lengths of more parts; those of fewer letters of the second text are parts of more letters of it, too.
func (l *lengths) raise(more lengths) {
	for n := 1; n < len(l); n++ {
		l[n] = max(l[n-1], l[n], more[n])
	}
}

// areLabels reports whether numbers of all matches are labels.
func (t texts) areLabels(numbers map[match]int) bool {
	for m := range t.matches() {
		for later := range t.matches() {
			if m.isBefore(later) && numbers[m] >= numbers[later] {
				return false
			}
		}
	}
	return true
}

// keepLongest deletes the labels of all matches that are in no common part with as many pairs as can be.
func (t texts) keepLongest(labels map[match]int) {
	longest := greatestLabel(labels)
search:
	for _, m := range slices.Backward(slices.Collect(t.matches())) {
		if labels[m] == longest {
			continue
		}
		for later := range t.matches() {
			if m.isBefore(later) && labels[later] == labels[m]+1 {
				continue search // it goes on to that pair, which was kept
			}
		}
		delete(labels, m)
	}
}

// common returns the first common part with as many pairs as can be.
func (t texts) common() part {
	labels := t.labels()
	t.keepLongest(labels)
	var list part
	for m := range t.matches() {
		// Each match that is kept goes on to a longest part, so that the first one that can be next is right.
		if next := list.with(m); labels[m] == len(next) && next.increases() {
			list = next
		}
	}
	return list
}

// marks returns the marks that leave the letters of a common part, and make the second text of the first one.
func (t texts) marks(common part) api.ProofMarks {
	m := api.ProofMarks{Struck: struck(t.first, common.leaves), Added: make([]string, len(t.first)+1)}
	end := match{len(t.first), len(t.second)}
	added := 0
	for _, pair := range common.with(end) {
		m.Added[pair.first] = t.second[added:pair.second]
		added = pair.second + 1
	}
	return m
}

// with returns a part with one more pair. Several parts may go on from one, so that it must not write behind it.
func (p part) with(m match) part { return append(p[:len(p):len(p)], m) }

// leaves reports whether a letter of the first text is in a pair.
func (p part) leaves(letter int) bool {
	return slices.ContainsFunc(p, func(m match) bool { return m.first == letter })
}

// increases reports whether from each pair to the next one both letters are greater.
func (p part) increases() bool {
	for i := 1; i < len(p); i++ {
		if !p[i-1].isBefore(p[i]) {
			return false
		}
	}
	return true
}

// partOf returns the part of which the pairs are.
func partOf(pairs [][2]int) part {
	p := make(part, len(pairs))
	for i, pair := range pairs {
		p[i] = match{pair[0], pair[1]}
	}
	return p
}

// pairs returns the pairs of a part.
func (p part) pairs() [][2]int {
	pairs := make([][2]int, len(p))
	for i, m := range p {
		pairs[i] = [2]int{m.first, m.second}
	}
	return pairs
}

// greatestLabel returns the greatest label, 0 if there is none.
func greatestLabel(labels map[match]int) int { return greatest(maps.Values(labels)) }

// greatest returns the greatest of several numbers that are not below 0, 0 if there is none.
func greatest[T cmp.Ordered](numbers iter.Seq[T]) T {
	var most T
	for n := range numbers {
		most = max(most, n)
	}
	return most
}
