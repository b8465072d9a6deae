package claim

import (
	"slices"

	"burin/api"
)

// holding is the star of each nation, holders is the nation of each star. While a matching is sought, several nations may have
// the same star, and several stars the same nation.
type (
	holding [api.MaxClaimNations]int
	holders [api.MaxClaimStars]int
)

// noStars is what nations have if all have none, noNations what stars have.
func noStars() holding {
	var h holding
	for nation := range h {
		h[nation] = none
	}
	return h
}

func noNations() holders {
	var h holders
	for star := range h {
		h[star] = none
	}
	return h
}

// starsChoose gives each star the nation that it would rather have, of those that would not rather keep what they have.
func (c *court) starsChoose(had holding) holders {
	out := noNations()
	for both := range c.pairs() {
		if !c.byNation.rather(pair{both.nation, had[both.nation]}, both) {
			out[both.star] = better(pair{out[both.star], both.star}, both, c.byStar.rather).nation
		}
	}
	return out
}

// nationsChoose gives each nation the star that it would rather have, of those that would not rather keep what they have.
func (c *court) nationsChoose(had holders) holding {
	out := noStars()
	for both := range c.pairs() {
		if !c.byStar.rather(pair{had[both.star], both.star}, both) {
			out[both.nation] = better(pair{both.nation, out[both.nation]}, both, c.byNation.rather).star
		}
	}
	return out
}

// settle lets stars and nations choose in turn until a round changes nothing: then each has the one by which it is had, and no
// pair would rather have one another. If the nations begin with too much, no round leaves them more, and none less than they
// have in any settled matching; if they begin with too little, it is the other way round.
func (c *court) settle(has holding) holding {
	for {
		before := has
		has = c.nationsChoose(c.starsChoose(has))
		if has == before {
			return has
		}
	}
}

// first returns the nations' best matching: each begins with the dearest star of all.
func (c *court) first() holding { return c.settle(c.nationsChoose(noNations())) }

// last returns the stars' best matching: each nation begins with none.
func (c *court) last() holding { return c.settle(noStars()) }

// matching returns what the nations of the book have, in new memory.
func (c *court) matching(has holding) []int { return taken(has[:len(c.Nations)]) }

// all returns all settled matchings, in lexicographic order.
func (c *court) all() [][]int {
	first, last := c.first(), c.last()
	list := [][]int{{}}
	for nation := range c.Nations {
		choice := c.choice(pair{nation, first[nation]}, pair{nation, last[nation]})
		var longer [][]int
		for _, m := range list {
			for _, star := range choice {
				if star == none || !slices.Contains(m, star) {
					longer = append(longer, append(m[:len(m):len(m)], star))
				}
			}
		}
		list = longer
	}
	return slices.DeleteFunc(list, c.isUnsettled)
}

// choice returns what a nation may have in a settled matching, strictly increasing: the stars of its list from that of the
// nations' best matching, the dearest one, to that of the stars' best one, the least one. If it has none there, it never has one.
func (c *court) choice(dearest, least pair) []int {
	if dearest.star == none {
		return []int{none}
	}
	var out []int
	for both := range c.pairs() {
		if both.nation == dearest.nation && !c.byNation.rather(both, dearest) && !c.byNation.rather(least, both) {
			out = append(out, both.star)
		}
	}
	return out
}
