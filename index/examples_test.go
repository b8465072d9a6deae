package index_test

import (
	"slices"
	"testing"

	"burin/api"
	"burin/index"
)

// TestExamples is the chapter's table, line by line.
func TestExamples(t *testing.T) {
	t.Run("Build of L", exampleBuildL)
	t.Run("Build of M", exampleBuildM)
	t.Run("Names, Number, Name", exampleNames)
	t.Run("Tell", exampleTell)
	t.Run("Apart, CheckApart", exampleApart)
	t.Run("Near", exampleNear)
	t.Run("Join, Both", exampleJoin)
}

// isStates reports an automaton, and an error, that are not as they should be.
func isStates(t *testing.T, s []api.IndexState, e api.Errno) func(errno api.Errno, want ...api.IndexState) {
	return func(errno api.Errno, want ...api.IndexState) {
		t.Helper()
		if !same(s, want) || e != errno {
			t.Error(s, e, "not", want, errno)
		}
	}
}

// isNames reports names, and an error, that are not as they should be.
func isNames(t *testing.T, l []string, e api.Errno) func(errno api.Errno, want ...string) {
	return func(errno api.Errno, want ...string) {
		t.Helper()
		if !slices.Equal(l, want) || e != errno {
			t.Error(l, e, "not", want, errno)
		}
	}
}

// isOne reports a number or a word, and an error, that are not as they should be.
func isOne[T comparable](t *testing.T, one T, e api.Errno) func(errno api.Errno, want T) {
	return func(errno api.Errno, want T) {
		t.Helper()
		if one != want || e != errno {
			t.Error(one, e, "not", want, errno)
		}
	}
}

func exampleBuildL(t *testing.T) {
	s, e := index.Build(listL())
	isStates(t, s, e)(api.OK, st(0, "bc", 1, 1), st(0, "a", 2), st(0, "rt", 3, 3), st(1, ""))
}

func exampleBuildM(t *testing.T) {
	s, e := index.Build(listM())
	isStates(t, s, e)(api.OK, st(0, "ab", 1, 2), st(1, "b", 2), st(1, ""))
}

func exampleNames(t *testing.T) {
	l, e := index.Names(buildFor(t, listM()))
	isNames(t, l, e)(api.OK, "a", "ab", "b")
	s := buildFor(t, listL())
	n, e := index.Number(s, "car")
	isOne(t, n, e)(api.OK, 2)
	n, e = index.Number(s, "cab")
	isOne(t, n, e)(api.ErrNone, 0)
	name, e := index.Name(s, 3)
	isOne(t, name, e)(api.OK, "cat")
	name, e = index.Name(s, 4)
	isOne(t, name, e)(api.ErrRange, "")
}

func exampleTell(t *testing.T) {
	w, e := index.Tell(listM(), "a", "b")
	isOne(t, w, e)(api.OK, "b")
	w, e = index.Tell(listL(), "b", "c")
	isOne(t, w, e)(api.ErrNone, "")
	w, e = index.Tell(listL(), "b", "ba")
	isOne(t, w, e)(api.OK, "r")
	w, e = index.Tell(listL(), "bar", "cat")
	isOne(t, w, e)(api.ErrNone, "")
}

func exampleApart(t *testing.T) {
	l, e := index.Apart(listL())
	isNames(t, l, e)(api.OK, "", "b", "ba", "bar")
	l, e = index.Apart(listM())
	isNames(t, l, e)(api.OK, "", "a", "ab")
	for _, words := range [][]string{names("", "b", "c"), names("bar", "car"), names("", "ba", "x")} {
		n, e := index.CheckApart(listL(), words)
		isOne(t, n, e)(api.ErrWord, 0)
	}
}

func exampleNear(t *testing.T) {
	l, e := index.Near(listL(), "bar", 1)
	isNames(t, l, e)(api.OK, "bar", "bat", "car")
	l, e = index.Near(listL(), "ba", 1)
	isNames(t, l, e)(api.OK, "bar", "bat")
	l, e = index.Near(listL(), "x", 2)
	isNames(t, l, e)(api.OK)
	l, e = index.Near(listL(), "bar", 3)
	isNames(t, l, e)(api.ErrRange)
}

func exampleJoin(t *testing.T) {
	l, e := index.Join(listL(), listM())
	isNames(t, l, e)(api.OK, "a", "ab", "b", "bar", "bat", "car", "cat")
	l, e = index.Both(listL(), names("bat", "cab"))
	isNames(t, l, e)(api.OK, "bat")
}

// TestG11 is example 11 of the document: the names bar, bat, car and cat need four states.
func TestG11(t *testing.T) {
	s := buildFor(t, listL())
	words := apartFor(t, listL())
	if len(s) != 4 || len(words) != 4 {
		t.Error(s, words)
	}
	n, e := index.CheckApart(listL(), words)
	isOne(t, n, e)(api.OK, 4)
}
