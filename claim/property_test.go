package claim_test

import (
	"slices"
	"testing"

	"burin/api"
	"burin/claim"
)

// allFor, firstFor, lastFor, kindFor, betterFor and worseFor are results of package claim that have no error.
func allFor(t *testing.T, b api.ClaimBook) [][]int {
	t.Helper()
	list, e := claim.All(b)
	if e != api.OK {
		t.Fatal(b, e)
	}
	return list
}
func firstFor(t *testing.T, b api.ClaimBook) []int {
	t.Helper()
	m, e := claim.First(b)
	return matchingFor(t, b, m, e)
}
func lastFor(t *testing.T, b api.ClaimBook) []int {
	t.Helper()
	m, e := claim.Last(b)
	return matchingFor(t, b, m, e)
}
func betterFor(t *testing.T, b api.ClaimBook, m, n []int) []int {
	t.Helper()
	list, e := claim.Better(b, m, n)
	return matchingFor(t, b, list, e)
}
func worseFor(t *testing.T, b api.ClaimBook, m, n []int) []int {
	t.Helper()
	list, e := claim.Worse(b, m, n)
	return matchingFor(t, b, list, e)
}
func kindFor(t *testing.T, b api.ClaimBook, nation, star int) int {
	t.Helper()
	k, e := claim.Kind(b, nation, star)
	if e != api.OK {
		t.Fatal(b, nation, star, e)
	}
	return k
}

// matchingFor returns a matching that a function returned, if it is settled.
func matchingFor(t *testing.T, b api.ClaimBook, m []int, e api.Errno) []int {
	t.Helper()
	if e != api.OK || !isSettled(t, b, m) {
		t.Fatal(b, m, e)
	}
	return m
}

// isSettled reports whether no pair unsettles a matching.
func isSettled(t *testing.T, b api.ClaimBook, m []int) bool {
	t.Helper()
	_, _, e := claim.Unsettled(b, m)
	if e != api.ErrNone && e != api.OK {
		t.Fatal(b, m, e)
	}
	return e == api.ErrNone
}

// isOneOf reports whether a list is one of some.
func isOneOf(list []int, some [][]int) bool {
	return slices.ContainsFunc(some, func(x []int) bool { return slices.Equal(x, list) })
}

func TestP10_8_Settled(t *testing.T) {
	others := 0
	for _, b := range anyBooks(20, 4, 400) {
		all := allFor(t, b)
		if len(all) == 0 || !slices.IsSortedFunc(all, slices.Compare) {
			t.Fatal(b, all)
		}
		for i, m := range all {
			if !isSettled(t, b, m) || isOneOf(m, all[:i]) {
				t.Fatal(b, m, all)
			}
		}
		for list := range lists(len(b.Nations), -1, len(b.Stars)-1) {
			if _, e := claim.CheckMatching(b, list); e != api.OK || isOneOf(list, all) {
				continue
			}
			others++
			nation, star, e := claim.Unsettled(b, list)
			if e != api.OK || !unsettles(b, list, nation, star) {
				t.Fatal(b, list, nation, star, e)
			}
		}
	}
	if others < 5000 {
		t.Error(others)
	}
}

// unsettles reports whether a pair unsettles a matching.
func unsettles(b api.ClaimBook, m []int, nation, star int) bool {
	return canBe(b, nation, star) && rather(b.Nations[nation], star, m[nation]) && rather(b.Stars[star], nation, slices.Index(m, star))
}

func TestP10_9_Best(t *testing.T) {
	for _, b := range append(anyBooks(21, 6, 300), bookSix()) {
		first, last := firstFor(t, b), lastFor(t, b)
		all := allFor(t, b)
		if !isOneOf(first, all) || !isOneOf(last, all) {
			t.Fatal(b, first, last, all)
		}
		for _, m := range all {
			for nation, list := range b.Nations {
				if rather(list, m[nation], first[nation]) || rather(list, last[nation], m[nation]) {
					t.Fatal(b, m, first, last, nation)
				}
			}
			for star, list := range b.Stars {
				was := slices.Index(m, star)
				if rather(list, was, slices.Index(last, star)) || rather(list, slices.Index(first, star), was) {
					t.Fatal(b, m, first, last, star)
				}
			}
		}
	}
}

func TestP10_10_Same(t *testing.T) {
	without := 0
	for _, b := range anyBooks(22, 6, 400) {
		first := firstFor(t, b)
		for _, m := range allFor(t, b) {
			for nation := range b.Nations {
				if (m[nation] == -1) != (first[nation] == -1) {
					t.Fatal(b, m, first)
				}
			}
			for star := range b.Stars {
				if slices.Contains(m, star) != slices.Contains(first, star) {
					t.Fatal(b, m, first)
				}
			}
			if slices.Contains(m, -1) && !slices.Equal(m, first) {
				without++
			}
		}
	}
	if without < 10 {
		t.Error(without)
	}
}

func TestP10_11_Together(t *testing.T) {
	for _, b := range append(anyBooks(23, 6, 200), bookSix()) {
		all := allFor(t, b)
		for _, m := range all {
			for _, n := range all {
				better, worse := betterFor(t, b, m, n), worseFor(t, b, m, n)
				if !isOneOf(better, all) || !isOneOf(worse, all) {
					t.Fatal(b, m, n, better, worse)
				}
				for star, list := range b.Stars {
					one, two := slices.Index(m, star), slices.Index(n, star)
					if rather(list, two, one) {
						one, two = two, one
					}
					if slices.Index(better, star) != two || slices.Index(worse, star) != one {
						t.Fatal(b, m, n, better, worse, star)
					}
				}
			}
		}
	}
}

func TestP10_12_Middle(t *testing.T) {
	others := 0
	for _, b := range append(anyBooks(24, 5, 300), bookSix()) {
		all := allFor(t, b)
		for i, one := range all {
			for k, two := range all[:i] {
				for _, three := range all[:k] {
					middle := middleOf(b, one, two, three)
					if !isSettled(t, b, middle) {
						t.Fatal(b, one, two, three, middle)
					}
					if !isOneOf(middle, these(one, two, three)) {
						others++
					}
				}
			}
		}
	}
	if others < 20 {
		t.Error(others)
	}
}

// middleOf returns, for each nation, the star that is the second one of those in three matchings, by its list.
func middleOf(b api.ClaimBook, matchings ...[]int) []int {
	var out []int
	for nation, list := range b.Nations {
		var stars []int
		for _, m := range matchings {
			stars = append(stars, m[nation])
		}
		slices.SortFunc(stars, func(one, two int) int { return slices.Index(list, one) - slices.Index(list, two) })
		out = append(out, stars[1])
	}
	return out
}

// TestP10_13_Honest hands in all lists instead of the own one.
func TestP10_13_Honest(t *testing.T) {
	less := 0
	for _, b := range anyBooks(25, 4, 120) {
		first := firstFor(t, b)
		for nation, own := range b.Nations {
			for _, list := range partsOf(len(b.Stars)) {
				star := firstFor(t, withNation(b, nation, list))[nation]
				if rather(own, star, first[nation]) {
					t.Fatal(b, nation, list, star, first)
				}
				if star != first[nation] {
					less++
				}
			}
		}
	}
	if less < 1000 {
		t.Error(less)
	}
}

func TestP10_14_More(t *testing.T) {
	d := dice(26)
	changed := 0
	for _, b := range anyBooks(27, 5, 800) {
		more := copied(b)
		added := len(b.Nations)
		more.Nations = append(more.Nations, d.list(len(b.Stars)))
		for star, list := range more.Stars {
			if d.upTo(4) > 0 {
				more.Stars[star] = slices.Insert(list, d.upTo(len(list)), added)
			}
		}
		was, is := firstFor(t, b), firstFor(t, more)
		for nation, list := range b.Nations {
			if rather(list, is[nation], was[nation]) {
				t.Fatal(b, more, was, is, nation)
			}
			if is[nation] != was[nation] {
				changed++
			}
		}
		for star, list := range more.Stars {
			if had, has := slices.Index(was, star), slices.Index(is, star); has != had && !rather(list, has, had) {
				t.Fatal(b, more, was, is, star)
			}
		}
	}
	if changed < 100 {
		t.Error(changed)
	}
}

func TestP10_15_Cut(t *testing.T) {
	cuts := 0
	for _, b := range append(anyBooks(28, 6, 400), bookSix()) {
		last := lastFor(t, b)
		cut := copied(b)
		for nation, list := range cut.Nations {
			if last[nation] == -1 {
				continue
			}
			cut.Nations[nation] = list[:slices.Index(list, last[nation])+1]
			if len(cut.Nations[nation]) < len(list) {
				cuts++
			}
		}
		if one, two := allFor(t, b), allFor(t, cut); !slices.EqualFunc(one, two, slices.Equal) {
			t.Fatal(b, cut, one, two)
		}
	}
	if cuts < 300 {
		t.Error(cuts)
	}
}

func TestP10_16_Turned(t *testing.T) {
	for _, b := range append(anyBooks(29, 6, 400), bookSix()) {
		other := turned(b)
		if first, last := firstFor(t, other), lastFor(t, other); !slices.Equal(first, nationsOf(b, lastFor(t, b))) || !slices.Equal(last, nationsOf(b, firstFor(t, b))) {
			t.Fatal(b, first, last)
		}
		want := allFor(t, b)
		for i, m := range want {
			want[i] = nationsOf(b, m)
		}
		slices.SortFunc(want, slices.Compare)
		if all := allFor(t, other); !slices.EqualFunc(all, want, slices.Equal) {
			t.Fatal(b, all, want)
		}
		for nation := range b.Nations {
			for star := range b.Stars {
				if kindFor(t, b, nation, star) != kindFor(t, other, star, nation) {
					t.Fatal(b, nation, star)
				}
			}
		}
	}
}
