package claim_test

import (
	"slices"
	"testing"

	"burin/api"
	"burin/claim"
)

// TestExamples is the chapter's table, line by line.
func TestExamples(t *testing.T) {
	t.Run("First, Last, All", exampleAll)
	t.Run("CheckMatching", exampleCheckMatching)
	t.Run("Unsettled", exampleUnsettled)
	t.Run("Kind", exampleKind)
	t.Run("Better, Worse", exampleBetter)
}

// isMatching reports a matching, and an error, that are not as they should be.
func isMatching(t *testing.T, m []int, e api.Errno) func(errno api.Errno, want ...int) {
	return func(errno api.Errno, want ...int) {
		t.Helper()
		if !slices.Equal(m, want) || e != errno {
			t.Error(m, e, "not", want, errno)
		}
	}
}

// isNumber reports a number, and an error, that are not as they should be.
func isNumber(t *testing.T, n int, e api.Errno) func(errno api.Errno, want int) {
	return func(errno api.Errno, want int) {
		t.Helper()
		if n != want || e != errno {
			t.Error(n, e, "not", want, errno)
		}
	}
}

func exampleAll(t *testing.T) {
	m, e := claim.First(bookB())
	isMatching(t, m, e)(api.OK, 0, 1, 2)
	m, e = claim.Last(bookB())
	isMatching(t, m, e)(api.OK, 2, 0, 1)
	if all, e := claim.All(bookB()); !slices.EqualFunc(all, these(of(0, 1, 2), of(1, 2, 0), of(2, 0, 1)), slices.Equal) || e != api.OK {
		t.Error(all, e)
	}
	if all, e := claim.All(bookC()); !slices.EqualFunc(all, these(of(0, -1)), slices.Equal) || e != api.OK {
		t.Error(all, e)
	}
}

func exampleCheckMatching(t *testing.T) {
	n, e := claim.CheckMatching(bookC(), of(1, 0))
	isNumber(t, n, e)(api.OK, 2)
	n, e = claim.CheckMatching(bookC(), of(1, 1))
	isNumber(t, n, e)(api.ErrRule, 0)
	n, e = claim.CheckMatching(bookC(), of(0, 2))
	isNumber(t, n, e)(api.ErrRange, 0)
	n, e = claim.CheckMatching(bookC(), of(0, 0))
	isNumber(t, n, e)(api.ErrHave, 0)
}

func exampleUnsettled(t *testing.T) {
	for i, x := range []struct {
		b            api.ClaimBook
		m            []int
		nation, star int
		e            api.Errno
	}{
		{bookC(), of(1, 0), 0, 0, api.OK},
		{bookC(), of(0, -1), 0, 0, api.ErrNone},
		{bookC(), of(-1, -1), 0, 0, api.OK},
		{bookB(), of(0, 2, 1), 2, 0, api.OK},
	} {
		if nation, star, e := claim.Unsettled(x.b, x.m); nation != x.nation || star != x.star || e != x.e {
			t.Error(i, nation, star, e)
		}
	}
}

func exampleKind(t *testing.T) {
	n, e := claim.Kind(bookB(), 0, 0)
	isNumber(t, n, e)(api.OK, 1)
	n, e = claim.Kind(bookC(), 0, 0)
	isNumber(t, n, e)(api.OK, 2)
	n, e = claim.Kind(bookC(), 1, 0)
	isNumber(t, n, e)(api.OK, 0)
	n, e = claim.Kind(bookC(), 2, 0)
	isNumber(t, n, e)(api.ErrArg, 0)
}

func exampleBetter(t *testing.T) {
	m, e := claim.Better(bookB(), of(1, 2, 0), of(2, 0, 1))
	isMatching(t, m, e)(api.OK, 1, 2, 0)
	m, e = claim.Worse(bookB(), of(1, 2, 0), of(2, 0, 1))
	isMatching(t, m, e)(api.OK, 2, 0, 1)
	m, e = claim.Better(bookB(), of(0, 1, 2), of(0, 2, 1))
	isMatching(t, m, e)(api.ErrClaim)
}

// TestG10 is example 10 of the document: three nations that claim three stars have three settled matchings.
func TestG10(t *testing.T) {
	all := allFor(t, bookB())
	if len(all) != 3 {
		t.Error(all)
	}
	for _, m := range all {
		if nation, star, e := claim.Unsettled(bookB(), m); e != api.ErrNone {
			t.Error(m, nation, star, e)
		}
	}
	m, e := claim.First(bookB())
	isMatching(t, m, e)(api.OK, all[0]...)
	m, e = claim.Last(bookB())
	isMatching(t, m, e)(api.OK, all[2]...)
}
