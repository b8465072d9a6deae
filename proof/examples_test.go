package proof_test

import (
	"testing"

	"burin/api"
	"burin/proof"
)

// TestExamples is the chapter's table, line by line.
func TestExamples(t *testing.T) {
	t.Run("Read", exampleRead)
	t.Run("Back", exampleBack)
	t.Run("Merge, Clash", exampleMerged)
	t.Run("Fewest", exampleFewest)
	t.Run("CheckCommon", exampleCommon)
	t.Run("CheckLabels", exampleLabels)
	t.Run("Unseen", exampleUnseen)
}

func exampleRead(t *testing.T) {
	check := func(text string, m api.ProofMarks, want string, number int) {
		if s, n, e := proof.Read(text, m); s != want || n != number || e != api.OK {
			t.Error(text, m, s, n, e)
		}
	}
	check("atlas", marksA(), "atlant", 3)
	check("atlas", marksB(), "Atlas", 2)
	check("s", marksD(), "n", 2)
}

func exampleBack(t *testing.T) {
	check := func(text string, m, want api.ProofMarks) {
		if n, e := proof.Back(text, m); !same(n, want) || e != api.OK {
			t.Error(text, m, n, e)
		}
	}
	check("atlas", marksA(), marks(of(4, 5), "", "", "", "", "s", "", ""))
	check("s", marksD(), marks(of(0), "", "s"))
}

func exampleMerged(t *testing.T) {
	if m, e := proof.Merge("atlas", marksA(), marksB()); !same(m, marks(of(0, 4), "A", "", "", "", "", "nt")) || e != api.OK {
		t.Error(m, e)
	}
	if m, e := proof.Merge("atlas", marksA(), marksC()); !isZero(m) || e != api.ErrProof {
		t.Error(m, e)
	}
	if at, e := proof.Clash("atlas", marksA(), marksC()); at != 5 || e != api.OK {
		t.Error(at, e)
	}
	if at, e := proof.Clash("atlas", marksA(), marksB()); at != 0 || e != api.ErrNone {
		t.Error(at, e)
	}
}

func exampleFewest(t *testing.T) {
	check := func(a, b string, want int) {
		if n, e := proof.Fewest(a, b); n != want || e != api.OK {
			t.Error(a, b, n, e)
		}
	}
	check("engrave", "graven", 3)
	check("plate", "plate", 0)
	check("", "ab", 2)
}

func exampleCommon(t *testing.T) {
	check := func(want int, errno api.Errno, pairs ...int) {
		if n, e := proof.CheckCommon("engrave", "graven", two(pairs...)); n != want || e != errno {
			t.Error(pairs, n, e)
		}
	}
	check(3, api.OK, 2, 0, 3, 1, 4, 2)
	check(2, api.OK, 0, 4, 1, 5)
	check(0, api.ErrEqual, 0, 0)
	check(0, api.ErrSum, 3, 1, 2, 0)
}

func exampleLabels(t *testing.T) {
	check := func(want int, errno api.Errno, labels ...int) {
		if n, e := proof.CheckLabels("engrave", "graven", labels); n != want || e != errno {
			t.Error(labels, n, e)
		}
	}
	check(5, api.OK, 1, 2, 1, 2, 3, 4, 5)
	check(0, api.ErrSum, 1, 1, 1, 2, 3, 4, 5)
	check(0, api.ErrMany, 1, 2, 1, 2, 3, 4)
}

func exampleUnseen(t *testing.T) {
	check := func(one, two, both, num, den int64, want api.Range, errno api.Errno) {
		if r, e := proof.Unseen(one, two, both, api.Ratio{Num: num, Den: den}); r != want || e != errno {
			t.Error(one, two, both, r, e)
		}
	}
	check(8, 6, 4, 1, 2, api.Range{Lo: 0, Hi: 2}, api.OK)
	check(8, 6, 1, 1, 1, api.Range{}, api.ErrSum)
	check(8, 9, 9, 1, 2, api.Range{}, api.ErrArg)
}

// TestG6 is example 6 of the document.
func TestG6(t *testing.T) {
	m, e := proof.Marks("engrave", "graven")
	if s, n, f := proof.Read("engrave", m); e != api.OK || s != "graven" || n != 3 || f != api.OK {
		t.Error(m, e, s, n, f)
	}
}
