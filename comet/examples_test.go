package comet_test

import (
	"slices"
	"testing"

	"burin/api"
	"burin/comet"
)

// TestExamples is the chapter's table, line by line.
func TestExamples(t *testing.T) {
	t.Run("At, Later", exampleAt)
	t.Run("Through", exampleThrough)
	t.Run("CheckPath, Most, Path", exampleMost)
	t.Run("Count, Kind", exampleKind)
	t.Run("Only", exampleOnly)
	t.Run("Least", exampleLeast)
}

// isPath reports a path, and an error, that are not as they should be.
func isPath(t *testing.T, path []int64, e api.Errno) func(errno api.Errno, want ...int64) {
	return func(errno api.Errno, want ...int64) {
		t.Helper()
		if !slices.Equal(path, want) || e != errno {
			t.Error(path, e, "not", want, errno)
		}
	}
}

// isNumber reports a number, and an error, that are not as they should be.
func isNumber(t *testing.T, n int, e api.Errno) func(errno api.Errno, want int) {
	return func(errno api.Errno, want int) {
		t.Helper()
		if n != want || e != errno {
			t.Error(n, e, "not", want, errno)
		}
	}
}

func exampleAt(t *testing.T) {
	if at, e := comet.At(longs(1, 1, 1), 4); at != 11 || e != api.OK {
		t.Error(at, e)
	}
	if at, e := comet.At(longs(1, 2), 61); at != 0 || e != api.ErrArg {
		t.Error(at, e)
	}
	path, e := comet.Later(longs(1, 1, 1), 2)
	isPath(t, path, e)(api.OK, 4, 3, 1)
	path, e = comet.Later(longs(1, 2), 3)
	isPath(t, path, e)(api.OK, 7, 2)
}

func exampleThrough(t *testing.T) {
	path, e := comet.Through(logL(), of(0, 1))
	isPath(t, path, e)(api.OK, 1, 2)
	path, e = comet.Through(logL(), of(2, 3))
	isPath(t, path, e)(api.OK, -1, 3)
	path, e = comet.Through(logL(), of(0, 1, 2))
	isPath(t, path, e)(api.ErrEqual)
	path, e = comet.Through(logM(), of(0, 1))
	isPath(t, path, e)(api.ErrComet)
}

func exampleMost(t *testing.T) {
	n, e := comet.CheckPath(logL(), longs(1, 2))
	isNumber(t, n, e)(api.OK, 4)
	n, e = comet.CheckPath(logL(), longs(-1, 3))
	isNumber(t, n, e)(api.OK, 2)
	n, e = comet.Most(logL())
	isNumber(t, n, e)(api.OK, 4)
	n, e = comet.Most(logQ())
	isNumber(t, n, e)(api.OK, 4)
	n, e = comet.Most(logM())
	isNumber(t, n, e)(api.ErrComet, 0)
	path, e := comet.Path(logQ())
	isPath(t, path, e)(api.OK, 1, 1, 1)
}

func exampleKind(t *testing.T) {
	n, e := comet.Count(logL())
	isNumber(t, n, e)(api.OK, 1)
	n, e = comet.Kind(logL(), 3)
	isNumber(t, n, e)(api.OK, 2)
	n, e = comet.Kind(logL(), 0)
	isNumber(t, n, e)(api.OK, 0)
}

func exampleOnly(t *testing.T) {
	path, e := comet.Only(logL(), 1)
	isPath(t, path, e)(api.OK, 1, 2)
	path, e = comet.Only(logL(), 2)
	isPath(t, path, e)(api.ErrPlan)
	path, e = comet.Only(logL(), 0)
	isPath(t, path, e)(api.ErrComet)
}

func exampleLeast(t *testing.T) {
	n, e := comet.Least(logL())
	isNumber(t, n, e)(api.ErrComet, 0)
	n, e = comet.Least(begun(logQ(), 4))
	isNumber(t, n, e)(api.OK, 2)
	n, e = comet.Least(logM())
	isNumber(t, n, e)(api.ErrComet, 0)
	for degree := range 4 {
		n, e = comet.Least(log(degree))
		isNumber(t, n, e)(api.OK, 0)
	}
}

// TestG9 is example 9 of the document.
func TestG9(t *testing.T) {
	l := daily(1, 1, 3, 5, 8, 9)
	path, e := comet.Path(l)
	isPath(t, path, e)(api.OK, 1, 2)
	n, e := comet.CheckPath(l, path)
	isNumber(t, n, e)(api.OK, 4)
	path, e = comet.Only(l, 1)
	isPath(t, path, e)(api.OK, 1, 2)
	for i, want := range of(0, 0, 0, 2, 0) {
		n, e := comet.Kind(l, i)
		isNumber(t, n, e)(api.OK, want)
	}
}
