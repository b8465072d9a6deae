package punch

import "iter"

// window is from a wear to one that is not less, with how many stars it has.
type window struct {
	from, to, stars int
}

// needs returns how many punches there must be so that a window is not too narrow.
func (w window) needs() int {
	wears := w.to - w.from + 1
	return (w.stars + wears - 1) / wears
}

// isTooNarrow reports whether a window has more stars than its punches have strikes.
func (b bench) isTooNarrow(w window) bool { return w.needs() > b.Punches }

// windows yields the windows of the job.
func (b bench) windows() iter.Seq[window] {
	return func(yield func(window) bool) {
		var ends counts // of stars whose From is in the window, by their To
		for from := range b.Life {
			clear(ends[:])
			for _, s := range b.Stars {
				if s.From >= from {
					ends[s.To]++
				}
			}
			stars := 0
			for to := from; to < b.Life; to++ {
				stars += ends[to]
				if !yield(window{from, to, stars}) {
					return
				}
			}
		}
	}
}
