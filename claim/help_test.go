package claim_test

import (
	"iter"
	"math"
	"slices"

	"burin/api"
)

// extremes are numbers of which no one is a nation or a star, nor none.
var extremes = []int{math.MinInt64, math.MinInt64 + 1, -1 << 62, -1 << 32, -2, 6, 7, 1 << 32, 1 << 62, math.MaxInt64 - 1, math.MaxInt64}

// of is a list, these are lists, book a book.
func of(x ...int) []int        { return x }
func these(x ...[]int) [][]int { return x }
func book(nations, stars [][]int) api.ClaimBook {
	return api.ClaimBook{Nations: nations, Stars: stars}
}

// bookB and bookC are the books B and C of the chapter's examples, bookTen has four nations and stars, and ten settled matchings.
func bookB() api.ClaimBook {
	return book(these(of(0, 1, 2), of(1, 2, 0), of(2, 0, 1)), these(of(1, 2, 0), of(2, 0, 1), of(0, 1, 2)))
}
func bookC() api.ClaimBook { return book(these(of(0, 1), of(0)), these(of(0, 1), of(0))) }
func bookTen() api.ClaimBook {
	return book(these(of(0, 1, 2, 3), of(1, 0, 3, 2), of(2, 3, 0, 1), of(3, 2, 1, 0)), these(of(3, 2, 1, 0), of(2, 3, 0, 1), of(1, 0, 3, 2), of(0, 1, 2, 3)))
}

// bookSix is a book at the limits, with lists of all: each nation begins with another star, and so do the stars.
func bookSix() api.ClaimBook {
	var b api.ClaimBook
	for i := range 6 {
		var nation, star []int
		for k := range 6 {
			nation, star = append(nation, (i+k)%6), append(star, (i+k+1)%6)
		}
		b.Nations, b.Stars = append(b.Nations, nation), append(b.Stars, star)
	}
	return b
}

// copied is a book in new memory, turned one with nations and stars exchanged.
func copied(b api.ClaimBook) api.ClaimBook { return book(deep(b.Nations), deep(b.Stars)) }
func turned(b api.ClaimBook) api.ClaimBook { return copied(book(b.Stars, b.Nations)) }

// deep is a copy of lists.
func deep(lists [][]int) [][]int {
	var out [][]int
	for _, list := range lists {
		out = append(out, slices.Clone(list))
	}
	return out
}

// withNation is a book in which a nation has another list, withStar one in which a star has.
func withNation(b api.ClaimBook, nation int, list []int) api.ClaimBook {
	b = copied(b)
	b.Nations[nation] = list
	return b
}
func withStar(b api.ClaimBook, star int, list []int) api.ClaimBook {
	return turned(withNation(turned(b), star, list))
}

// dice is a generator of numbers that are the same in each run.
type dice uint64

func (d *dice) upTo(n int) int {
	*d = *d*6364136223846793005 + 1442695040888963407
	return int(uint64(*d)>>33) % (n + 1)
}

func (d *dice) from(a, b int) int { return a + d.upTo(b-a) }

// shuffled throws a list of the numbers below n.
func (d *dice) shuffled(n int) []int {
	out := make([]int, n)
	for i := range out {
		out[i] = i
		k := d.upTo(i)
		out[i], out[k] = out[k], out[i]
	}
	return out
}

// list throws a list of some of the numbers below n; of all, or of few.
func (d *dice) list(n int) []int {
	list := d.shuffled(n)
	switch d.upTo(3) {
	case 0:
		return list[:d.upTo(n)]
	case 1:
		return list[:n-d.upTo(min(n, 1))]
	}
	return list
}

// anyBook throws a book.
func (d *dice) anyBook(nations, stars int) api.ClaimBook {
	full := d.upTo(1) == 0
	one := func(n int) []int {
		if full {
			return d.shuffled(n)
		}
		return d.list(n)
	}
	var b api.ClaimBook
	for range nations {
		b.Nations = append(b.Nations, one(stars))
	}
	for range stars {
		b.Stars = append(b.Stars, one(nations))
	}
	return b
}

// opposed throws a book in which a nation that a star would rather have is one that would rather not have it, so that there are
// many settled matchings: by squares in which each row and column has each number, with rows and columns shuffled.
func (d *dice) opposed(n int) api.ClaimBook {
	rows, columns, shift := d.shuffled(n), d.shuffled(n), d.shuffled(n)
	b := book(make([][]int, n), make([][]int, n))
	place := func(nation, star int) int { return slices.Index(shift, (rows[nation]+columns[star])%n) }
	for i := range n {
		b.Nations[i], b.Stars[i] = make([]int, n), make([]int, n)
	}
	for nation := range n {
		for star := range n {
			p := place(nation, star)
			b.Nations[nation][p] = star
			b.Stars[star][n-1-p] = nation
		}
	}
	if list := b.Nations[d.upTo(n-1)]; n > 1 && d.upTo(2) == 0 {
		list[0], list[1] = list[1], list[0]
	}
	return b
}

// beside is a book of the nations and stars of two books that have nothing to do with one another.
func beside(one, two api.ClaimBook) api.ClaimBook {
	out := copied(one)
	for _, list := range two.Nations {
		out.Nations = append(out.Nations, moved(list, len(one.Stars)))
	}
	for _, list := range two.Stars {
		out.Stars = append(out.Stars, moved(list, len(one.Nations)))
	}
	return out
}

// moved is a list in which each number is greater by n.
func moved(list []int, n int) []int {
	var out []int
	for _, x := range list {
		out = append(out, x+n)
	}
	return out
}

// anyBooks throws a number of books with up to most nations and stars, and adds those of the examples, and a few others.
func anyBooks(seed dice, most, n int) []api.ClaimBook {
	out := []api.ClaimBook{bookB(), bookC(), bookTen(), turned(bookC()), book(these(nil), these(nil)), book(these(nil, nil), these(of(0), of(1, 0)))}
	for range n {
		switch seed.upTo(4) {
		case 0:
			out = append(out, seed.opposed(seed.from(1, most)))
		case 1: // some nations or stars have none, and the other ones several settled matchings
			n := seed.from(1, most-1)
			out = append(out, beside(seed.anyBook(seed.from(1, most-n), seed.from(1, most-n)), seed.opposed(n)))
		default:
			out = append(out, seed.anyBook(seed.from(1, most), seed.from(1, most)))
		}
	}
	return out
}

// allBooks yields all books with so many nations and stars.
func allBooks(nations, stars int) iter.Seq[api.ClaimBook] {
	return func(yield func(api.ClaimBook) bool) {
		claims, seen := partsOf(stars), partsOf(nations)
		for one := range lists(nations, 0, len(claims)-1) {
			for two := range lists(stars, 0, len(seen)-1) {
				var b api.ClaimBook
				for _, i := range one {
					b.Nations = append(b.Nations, claims[i])
				}
				for _, i := range two {
					b.Stars = append(b.Stars, seen[i])
				}
				if !yield(b) {
					return
				}
			}
		}
	}
}

// partsOf returns all lists of numbers below n, none of them twice.
func partsOf(n int) [][]int {
	out := these(nil)
	for i := 0; i < len(out); i++ {
		for k := range n {
			if !slices.Contains(out[i], k) {
				out = append(out, append(slices.Clone(out[i]), k))
			}
		}
	}
	return out
}

// lists yields all lists of so many numbers from least to greatest, in lexicographic order.
func lists(long, least, greatest int) iter.Seq[[]int] {
	return func(yield func([]int) bool) {
		list := slices.Repeat(of(least), long)
		for {
			if !yield(slices.Clone(list)) {
				return
			}
			i := long - 1
			for i >= 0 && list[i] == greatest {
				list[i] = least
				i--
			}
			if i < 0 {
				return
			}
			list[i]++
		}
	}
}

// rather and all that follows are the chapter's definitions.
// They are there to check what package claim finds.

// rather reports whether the nation or star that has a list would rather have one than two, which may be none.
func rather(list []int, one, two int) bool {
	i, k := slices.Index(list, one), slices.Index(list, two)
	return i >= 0 && (two == -1 || k > i)
}

// canBe reports whether a nation and a star can be a pair.
func canBe(b api.ClaimBook, nation, star int) bool {
	return slices.Contains(b.Nations[nation], star) && slices.Contains(b.Stars[star], nation)
}

// checkOf returns how many nations have a star in a matching, or the error of what is none.
func checkOf(b api.ClaimBook, list []int) (int, api.Errno) {
	if len(list) != len(b.Nations) {
		return 0, api.ErrEqual
	}
	many, rule, have := 0, false, false
	for nation, star := range list {
		if star < -1 || star >= len(b.Stars) {
			return 0, api.ErrRange
		}
		if star >= 0 {
			many++
			rule = rule || !canBe(b, nation, star)
			have = have || slices.Contains(list[:nation], star)
		}
	}
	switch {
	case rule:
		return 0, api.ErrRule
	case have:
		return 0, api.ErrHave
	}
	return many, api.OK
}

// unsettlingOf returns the first pair that unsettles a matching, and whether there is one.
func unsettlingOf(b api.ClaimBook, matching []int) (nation, star int, found bool) {
	for nation, has := range matching {
		for star := range b.Stars {
			if canBe(b, nation, star) && rather(b.Nations[nation], star, has) && rather(b.Stars[star], nation, slices.Index(matching, star)) {
				return nation, star, true
			}
		}
	}
	return 0, 0, false
}

// matchingsOf returns all matchings of a book, in lexicographic order.
func matchingsOf(b api.ClaimBook) [][]int {
	list := these(nil)
	for nation := range b.Nations {
		var longer [][]int
		for _, m := range list {
			for star := -1; star < len(b.Stars); star++ {
				if star == -1 || canBe(b, nation, star) && !slices.Contains(m, star) {
					longer = append(longer, append(slices.Clone(m), star))
				}
			}
		}
		list = longer
	}
	return list
}

// settledOf returns those of them that are settled.
func settledOf(b api.ClaimBook) [][]int {
	return slices.DeleteFunc(matchingsOf(b), func(m []int) bool {
		_, _, found := unsettlingOf(b, m)
		return found
	})
}

// bestOf returns, for each nation, the star that it would rather have than any other one that it has in a settled matching.
func bestOf(b api.ClaimBook, settled [][]int) []int {
	best := slices.Clone(settled[0])
	for _, m := range settled {
		for nation, star := range m {
			if rather(b.Nations[nation], star, best[nation]) {
				best[nation] = star
			}
		}
	}
	return best
}

// nationsOf returns the nation of each star in a matching.
func nationsOf(b api.ClaimBook, matching []int) []int {
	var out []int
	for star := range b.Stars {
		out = append(out, slices.Index(matching, star))
	}
	return out
}

// starsBestOf returns the stars' best matching.
func starsBestOf(b api.ClaimBook, settled [][]int) []int {
	other := turned(b)
	var list [][]int
	for _, m := range settled {
		list = append(list, nationsOf(b, m))
	}
	return nationsOf(other, bestOf(other, list))
}

// kindOf returns whether a nation has a star in each settled matching, in some or in none.
func kindOf(settled [][]int, nation, star int) int {
	many := 0
	for _, m := range settled {
		if m[nation] == star {
			many++
		}
	}
	switch many {
	case 0:
		return api.ClaimNever
	case len(settled):
		return api.ClaimAlways
	}
	return api.ClaimMay
}

// togetherOf returns, for each nation, the star that it would rather have of those in two matchings, and the other one.
func togetherOf(b api.ClaimBook, m, n []int) (better, worse []int) {
	for nation, list := range b.Nations {
		one, two := m[nation], n[nation]
		if rather(list, two, one) {
			one, two = two, one
		}
		better, worse = append(better, one), append(worse, two)
	}
	return better, worse
}
