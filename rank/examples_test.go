package rank_test

import (
	"slices"
	"testing"

	"burin/api"
	"burin/rank"
)

// TestExamples is the chapter's table, line by line.
func TestExamples(t *testing.T) {
	t.Run("Order, CheckOrder", exampleOrder)
	t.Run("CheckCircle, Circle", exampleCircle)
	t.Run("Count, Kind", exampleCount)
	t.Run("Span, Ranks", exampleRanks)
	t.Run("Chance", exampleChance)
	t.Run("Depth, Next", exampleDepth)
}

func exampleOrder(t *testing.T) {
	if l, e := rank.Order(bookB()); !slices.Equal(l, of(0, 1, 2, 3)) || e != api.OK {
		t.Error(l, e)
	}
	if l, e := rank.Order(bookX()); len(l) > 0 || e != api.ErrRule {
		t.Error(l, e)
	}
	check := func(want api.Errno, list ...int) {
		if e := rank.CheckOrder(bookB(), list); e != want {
			t.Error(list, e)
		}
	}
	check(api.OK, 1, 3, 0, 2)
	check(api.ErrRule, 2, 0, 1, 3)
	check(api.ErrEqual, 0, 1, 2)
	check(api.ErrArg, 0, 1, 1, 3)
}

func exampleCircle(t *testing.T) {
	check := func(b api.RankBook, want api.Errno, list ...int) {
		if e := rank.CheckCircle(b, list); e != want {
			t.Error(b, list, e)
		}
	}
	check(bookX(), api.OK, 1, 2)
	check(bookX(), api.OK, 2, 1)
	check(bookX(), api.ErrMany, 1)
	check(bookB(), api.ErrSum, 1, 2)
	if l, e := rank.Circle(bookB()); len(l) > 0 || e != api.ErrNone {
		t.Error(l, e)
	}
}

func exampleCount(t *testing.T) {
	if n, e := rank.Count(bookB()); n != 5 || e != api.OK {
		t.Error(n, e)
	}
	if n, e := rank.Count(bookX()); n != 0 || e != api.OK {
		t.Error(n, e)
	}
	check := func(one, two, want int, errno api.Errno) {
		if k, e := rank.Kind(bookB(), one, two); k != want || e != errno {
			t.Error(one, two, k, e)
		}
	}
	check(1, 2, 2, api.OK)
	check(2, 1, 0, api.OK)
	check(0, 1, 1, api.OK)
	check(1, 1, 0, api.ErrArg)
}

func exampleRanks(t *testing.T) {
	if r, e := rank.Span(bookB(), 0); r != (api.Range{Lo: 0, Hi: 2}) || e != api.OK {
		t.Error(r, e)
	}
	if r, e := rank.Span(bookB(), 2); r != (api.Range{Lo: 2, Hi: 3}) || e != api.OK {
		t.Error(r, e)
	}
	for star, want := range [][]int64{{2, 2, 1, 0}, {3, 2, 0, 0}, {0, 0, 2, 3}, {0, 1, 2, 2}} {
		if l, e := rank.Ranks(bookB(), star); !slices.Equal(l, want) || e != api.OK {
			t.Error(star, l, e)
		}
	}
}

func exampleChance(t *testing.T) {
	check := func(one, two int, num, den int64) {
		if r, e := rank.Chance(bookB(), one, two); r != (api.Ratio{Num: num, Den: den}) || e != api.OK {
			t.Error(one, two, r, e)
		}
	}
	check(0, 1, 2, 5)
	check(0, 3, 4, 5)
	check(1, 2, 1, 1)
	check(2, 1, 0, 1)
}

func exampleDepth(t *testing.T) {
	check := func(b api.RankBook, want int, errno api.Errno) {
		if d, e := rank.Depth(b); d != want || e != errno {
			t.Error(b, d, e)
		}
	}
	check(bookB(), 3, api.OK)
	check(bookX(), 0, api.ErrRule)
	check(book(5), 0, api.ErrOver)
	if one, two, e := rank.Next(bookB()); one != 0 || two != 1 || e != api.OK {
		t.Error(one, two, e)
	}
}

// TestG8 is example 8 of the document.
func TestG8(t *testing.T) {
	if n, e := rank.Count(book(4, 0, 2, 1, 2, 1, 3)); n != 5 || e != api.OK {
		t.Error(n, e)
	}
}
