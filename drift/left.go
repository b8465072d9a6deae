package drift

import "burin/api"

// marks tells for each entry whether it is left out.
type marks []bool

// set marks just the entries of a list.
func (m marks) set(list []int) {
	clear(m)
	for _, entry := range list {
		m[entry] = true
	}
}

// free reports whether an entry is not marked.
func (m marks) free(entry int) bool { return !m[entry] }

// hunt is a search for all best lists of a card.
type hunt struct {
	card
	out   marks
	lists [][]int // the best lists so far, all of the same length
}

// bestLists returns all best lists, of which there is at least one.
func bestLists(s api.DriftStar) [][]int {
	h := hunt{card: newCard(s, every), out: make(marks, len(s.Entries))}
	h.decide(0, nil, h.bounds[pair{alone, alone}])
	return h.lists
}

// decide keeps an entry, or leaves it out behind those of left, and goes on with the next one.
// span is what the entries that were kept allow as the rate; it only becomes tighter, so that a clash ends a branch.
func (h *hunt) decide(entry int, left []int, span sides) {
	if len(h.lists) > 0 && len(left) > len(h.lists[0]) {
		return
	}
	if entry == len(h.Entries) {
		h.take(left)
		return
	}
	if kept := h.keep(entry, left, span); !kept.clash() {
		h.decide(entry+1, left, kept)
	}
	h.decide(entry+1, append(left[:len(left):len(left)], entry), span)
}

// keep returns the span behind one more entry is kept.
func (h *hunt) keep(entry int, left []int, span sides) sides {
	h.out.set(left)
	for early := range entry {
		b, ok := h.bounds[pair{early, entry}]
		if !ok || !h.out.free(early) {
			continue
		}
		for side := range span {
			if tighter(side, b[side], span[side]) {
				span[side] = b[side]
			}
		}
	}
	return span
}

// take takes over a list that is no longer than those so far.
func (h *hunt) take(left []int) {
	if len(h.lists) > 0 && len(left) < len(h.lists[0]) {
		h.lists = nil
	}
	list := make([]int, len(left))
	copy(list, left)
	h.lists = append(h.lists, list)
}
