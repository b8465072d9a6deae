package proof

import (
	"cmp"
	"iter"
	"slices"

	"burin/api"
)

// page is a text with marks of it.
type page struct {
	api.ProofMarks
	text string
}

// What is done with a glyph.
const (
	glyphLeft = iota
	glyphStruck
	glyphAdded
)

// glyph is one byte of a page, of its text or one that is added, with what is done with it.
type glyph struct {
	char string // a string, since a byte that is made one would be taken for a rune, of two bytes from 128 on
	done int
}

// pageFor returns the page of a text with marks, or the error of one of both.
func pageFor(text string, m api.ProofMarks) (page, api.Errno) {
	switch {
	case !areTexts(text):
		return page{}, api.ErrLong
	case len(m.Added) != len(text)+1:
		return page{}, api.ErrEqual
	case !areTexts(m.Added...):
		return page{}, api.ErrLong
	case !areLetters(text, m.Struck):
		return page{}, api.ErrRange
	}
	return page{m, text}, api.OK
}

// pagesFor returns the pages of a text with the marks of two readers, or the error of the first of them that has one.
func pagesFor(text string, m, n api.ProofMarks) (page, page, api.Errno) {
	one, e := pageFor(text, m)
	if e != api.OK {
		return page{}, page{}, e
	}
	other, e := pageFor(text, n)
	if e != api.OK {
		return page{}, page{}, e
	}
	return one, other, api.OK
}

// leaves reports whether a letter of the text is left.
func (p page) leaves(letter int) bool { return !slices.Contains(p.Struck, letter) }

// size returns the number of marks.
func (p page) size() int {
	n := len(p.Struck)
	for _, added := range p.Added {
		n += len(added)
	}
	return n
}

// glyphs yields all glyphs, in their order: at each place those that are added, and then that of the text.
func (p page) glyphs() iter.Seq[glyph] {
	return func(yield func(glyph) bool) {
		for place, added := range p.Added {
			for i := range len(added) {
				if !yield(glyph{added[i : i+1], glyphAdded}) {
					return
				}
			}
			if place == len(p.text) {
				return
			}
			done := glyphStruck
			if p.leaves(place) {
				done = glyphLeft
			}
			if !yield(glyph{p.text[place : place+1], done}) {
				return
			}
		}
	}
}

// marked returns the marked text.
func (p page) marked() string {
	text := ""
	for g := range p.glyphs() {
		if g.done != glyphStruck {
			text += g.char
		}
	}
	return text
}

// back returns the marks that turn the marks of the page back.
func (p page) back() api.ProofMarks {
	back := api.ProofMarks{Added: []string{""}}
	for g := range p.glyphs() {
		place := len(back.Added) - 1 // behind the letters of the marked text that came
		switch g.done {
		case glyphStruck:
			back.Added[place] += g.char
			continue
		case glyphAdded:
			back.Struck = append(back.Struck, place)
		}
		back.Added = append(back.Added, "")
	}
	return back
}

// clash returns the first place at which the marks of two pages contradict each other, and whether there is one.
func (p page) clash(other page) (int, bool) {
	for place, one := range p.Added {
		two := other.Added[place]
		if one != "" && two != "" && one != two {
			return place, true
		}
	}
	return 0, false
}

// merged returns what the marks of two pages that do not contradict each other are merged to.
func (p page) merged(other page) api.ProofMarks {
	added := make([]string, len(p.Added))
	copy(added, p.Added)
	for place, s := range other.Added {
		if s != "" {
			added[place] = s
		}
	}
	bothLeave := func(letter int) bool { return p.leaves(letter) && other.leaves(letter) }
	return api.ProofMarks{Struck: struck(p.text, bothLeave), Added: added}
}

// struck returns the letters of a text that are not left.
func struck(text string, leaves func(letter int) bool) []int {
	var list []int
	for letter := range len(text) {
		if !leaves(letter) {
			list = append(list, letter)
		}
	}
	return list
}

// areTexts reports whether no string has too many bytes.
func areTexts(list ...string) bool {
	for _, s := range list {
		if len(s) > api.MaxProofText {
			return false
		}
	}
	return true
}

// areLetters reports whether a list is strictly increasing, of letters of a text.
func areLetters(text string, list []int) bool {
	before := -1
	for _, letter := range list {
		if !within(before+1, len(text)-1, letter) {
			return false
		}
		before = letter
	}
	return true
}

// within reports whether all numbers are from least to greatest.
func within[T cmp.Ordered](least, greatest T, numbers ...T) bool {
	for _, n := range numbers {
		if n < least || n > greatest {
			return false
		}
	}
	return true
}
