package punch

import (
	"cmp"
	"iter"
	"maps"

	"burin/api"
)

// strike is one that a punch does at a wear.
type strike struct {
	punch, wear int
}

// bench is a job with the stars that are struck, each at its strike.
type bench struct {
	api.PunchJob
	at map[strike]int
}

// route is strikes by which stars move on, each to the next one, and the star that still needs one behind them.
type route struct {
	strikes []strike
	mover   int
}

// benchFor returns the bench of a job for stars of it, or the error of one of both.
func benchFor(j api.PunchJob, stars ...int) (bench, api.Errno) {
	if e := CheckJob(j); e != api.OK {
		return bench{}, e
	}
	if !within(0, len(j.Stars)-1, stars...) {
		return bench{}, api.ErrArg
	}
	return newBench(j), api.OK
}

// newBench returns the bench of a valid job, on which no star is struck.
func newBench(j api.PunchJob) bench {
	b := bench{PunchJob: j, at: map[strike]int{}}
	b.Stars = make([]api.PunchStar, len(j.Stars)) // its own ones, as a star that is pinned is changed
	copy(b.Stars, j.Stars)
	return b
}

// wearsOf yields the wears at which a star may be struck.
func wearsOf(s api.PunchStar) iter.Seq[int] {
	return func(yield func(int) bool) {
		for wear := s.From; wear <= s.To; wear++ {
			if !yield(wear) {
				return
			}
		}
	}
}

// then returns the strikes of a route with one more. Several routes may go on from one, so that it must not write behind it.
func (r route) then(s strike) []strike {
	return append(r.strikes[:len(r.strikes):len(r.strikes)], s)
}

// routeFor returns strikes by which a star can be struck together with those that are: it goes to the first of them, the
// star from there to the second one, and so on, and the last one is free. It reports whether there are such strikes.
func (b bench) routeFor(star int) ([]strike, bool) {
	tried := map[strike]bool{}
	waiting := []route{{mover: star}}
	for len(waiting) > 0 {
		r := waiting[0]
		waiting = waiting[1:]
	search:
		for wear := range wearsOf(b.Stars[r.mover]) {
			for punch := range b.Punches {
				s := strike{punch, wear}
				if tried[s] {
					continue search // all strikes at a wear are tried together
				}
				tried[s] = true
				next := r.then(s)
				other, taken := b.at[s]
				if !taken {
					return next, true
				}
				waiting = append(waiting, route{next, other})
			}
		}
	}
	return nil, false
}

// move strikes a star at the first of the strikes of its route, and moves the others on.
func (b bench) move(star int, strikes []strike) {
	for i := len(strikes) - 1; i > 0; i-- {
		b.at[strikes[i]] = b.at[strikes[i-1]]
	}
	b.at[strikes[0]] = star
}

// add strikes one star more, for which others may move; it reports whether it can be struck together with them, and
// changes nothing if it cannot.
func (b bench) add(star int) bool {
	strikes, ok := b.routeFor(star)
	if ok {
		b.move(star, strikes)
	}
	return ok
}

// pin lets a star that is struck be struck at a wear alone, for which others may move; it reports whether it can be, and
// changes nothing if it cannot.
func (b bench) pin(star, wear int) bool {
	before := b.Stars[star]
	from, _ := first(maps.Keys(b.at), func(s strike) bool { return b.at[s] == star })
	delete(b.at, from)
	b.Stars[star].From, b.Stars[star].To = wear, wear
	if b.add(star) {
		return true
	}
	b.at[from], b.Stars[star] = star, before
	return false
}

// strikeAll strikes the stars that are meant, on a bench without any; it reports whether they can be struck.
func (b bench) strikeAll(meant func(star int) bool) bool {
	for star := range b.Stars {
		if meant(star) && !b.add(star) {
			return false
		}
	}
	return true
}

// first returns the first element that is good, and whether there is one.
func first[T any](all iter.Seq[T], good func(T) bool) (T, bool) {
	for x := range all {
		if good(x) {
			return x, true
		}
	}
	var none T
	return none, false
}

// within reports whether all numbers are from least to greatest.
func within[T cmp.Ordered](least, greatest T, numbers ...T) bool {
	for _, n := range numbers {
		if n < least || n > greatest {
			return false
		}
	}
	return true
}
