package index

import (
	"cmp"
	"iter"
	"slices"
	"strings"

	"burin/api"
)

// list is a valid list.
type list struct {
	names []string
}

// listsFor returns two lists, or the error of the first of them that has one.
func listsFor(a, b []string) (list, list, api.Errno) {
	for _, l := range [][]string{a, b} {
		if e := CheckList(l); e != api.OK {
			return list{}, list{}, e
		}
	}
	return list{a}, list{b}, api.OK
}

// has reports whether a word is a name of the list.
func (l list) has(word string) bool {
	_, found := slices.BinarySearch(l.names, word)
	return found
}

// endings yields what names have behind a word, in their order.
func (l list) endings(word string) iter.Seq[string] {
	return func(yield func(string) bool) {
		for _, name := range l.names {
			if ending, begins := strings.CutPrefix(name, word); begins && !yield(ending) {
				return
			}
		}
	}
}

// tell returns the ending that tells two words apart, and whether there is one. It is an ending of one of both.
func (l list) tell(one, two string) (string, bool) {
	endings := slices.AppendSeq(slices.Collect(l.endings(one)), l.endings(two))
	slices.SortFunc(endings, func(a, b string) int { return cmp.Or(cmp.Compare(len(a), len(b)), strings.Compare(a, b)) })
	return first(endings, func(ending string) bool { return l.has(one+ending) != l.has(two+ending) })
}

// areBeginnings reports whether words are beginnings.
func (l list) areBeginnings(words []string) bool {
	came := map[string]bool{}
	for _, word := range words {
		endings := l.form(word).endings
		if endings == "" || came[endings] {
			return false
		}
		came[endings] = true
	}
	return true
}

// joined returns the names of two lists, in their order.
func (l list) joined(other list) []string {
	isNew := func(name string) bool { return !l.has(name) }
	all := append(taken(l.names), meant(other.names, isNew)...)
	slices.Sort(all)
	return all
}

// meant returns those names that are meant, in their order.
func meant(names []string, isMeant func(name string) bool) []string {
	var out []string
	for _, name := range names {
		if isMeant(name) {
			out = append(out, name)
		}
	}
	return out
}

// taken returns a copy of names, in new memory.
func taken(names []string) []string {
	out := make([]string, len(names))
	copy(out, names)
	return out
}

// distance returns the distance of two words.
func distance(one, two string) int {
	var row [api.MaxIndexLetters + 1]int // from what came of one word to each beginning of the other one
	for k := range row {
		row[k] = k
	}
	for i := range len(one) {
		before := row
		row[0] = i + 1
		for k := range len(two) {
			if one[i] == two[k] {
				row[k+1] = before[k]
			} else {
				row[k+1] = 1 + min(before[k], before[k+1], row[k])
			}
		}
	}
	return row[len(two)]
}

// checkWords returns the error of the first word that has one.
func checkWords(words ...string) api.Errno {
	word, isWrong := first(words, func(word string) bool { return isLong(word) || !areLetters(word) })
	switch {
	case !isWrong:
		return api.OK
	case isLong(word):
		return api.ErrLong
	}
	return api.ErrForm
}

// isLong reports whether a word has too many bytes.
func isLong(word string) bool { return len(word) > api.MaxIndexLetters }

// isNoName reports whether a string that is not too long is no name.
func isNoName(s string) bool { return s == "" || !areLetters(s) }

// areLetters reports whether all bytes are letters.
func areLetters(s string) bool { return within('a', 'z', []byte(s)...) }

// first returns the first one that is good, and whether there is one.
func first[T any](all []T, isGood func(one T) bool) (T, bool) {
	for _, one := range all {
		if isGood(one) {
			return one, true
		}
	}
	var none T
	return none, false
}

// increases reports whether each element is greater than the one before it.
func increases[T cmp.Ordered](all []T) bool {
	for i := 1; i < len(all); i++ {
		if all[i] <= all[i-1] {
			return false
		}
	}
	return true
}

// within reports whether all numbers are from least to greatest.
func within[T cmp.Ordered](least, greatest T, numbers ...T) bool {
	for _, n := range numbers {
		if n < least || n > greatest {
			return false
		}
	}
	return true
}
