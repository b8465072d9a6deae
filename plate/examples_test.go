package plate_test

import (
	"slices"
	"testing"

	"burin/api"
	"burin/plate"
)

// TestExamples is the chapter's table, line by line.
func TestExamples(t *testing.T) {
	t.Run("Move", exampleMoves)
	t.Run("After, Inverse", exampleMotions)
	t.Run("Reached", exampleReached)
	t.Run("Plan, CheckPlan", examplePlans)
	t.Run("Heights, CheckHeights", exampleHeights)
	t.Run("Stays, Least, Alike", exampleForms)
	t.Run("Circles, Count", exampleCounts)
}

func exampleMoves(t *testing.T) {
	for motion, want := range map[int][]int{1: of(0, 1, 0, 0), 2: of(0, 0, 0, 1), 4: of(0, 1, 0, 0)} {
		if p, e := plate.Move(plateP(), motion); !same(p, square(2, want...)) || e != api.OK {
			t.Error(motion, p, e)
		}
	}
	if p, e := plate.Move(plateP(), 8); !same(p, api.PlateSquare{}) || e != api.ErrArg {
		t.Error(p, e)
	}
}

func exampleMotions(t *testing.T) {
	if m, e := plate.After(1, 4); m != 7 || e != api.OK {
		t.Error(m, e)
	}
	if m, e := plate.After(4, 1); m != 5 || e != api.OK {
		t.Error(m, e)
	}
	if m, e := plate.Inverse(1); m != 3 || e != api.OK {
		t.Error(m, e)
	}
	if m, e := plate.Inverse(5); m != 5 || e != api.OK {
		t.Error(m, e)
	}
}

func exampleReached(t *testing.T) {
	if l, e := plate.Reached(of(1)); !slices.Equal(l, of(0, 1, 2, 3)) || e != api.OK {
		t.Error(l, e)
	}
	if l, e := plate.Reached(of(2, 4)); !slices.Equal(l, of(0, 2, 4, 6)) || e != api.OK {
		t.Error(l, e)
	}
	if l, e := plate.Reached(of(4, 1)); len(l) > 0 || e != api.ErrRange {
		t.Error(l, e)
	}
}

func examplePlans(t *testing.T) {
	if l, e := plate.Plan(of(1, 4), 7); !slices.Equal(l, of(1, 4)) || e != api.OK {
		t.Error(l, e)
	}
	if l, e := plate.Plan(of(1), 3); !slices.Equal(l, of(1, 1, 1)) || e != api.OK {
		t.Error(l, e)
	}
	if l, e := plate.Plan(of(1), 4); len(l) > 0 || e != api.ErrPlan {
		t.Error(l, e)
	}
	if m, e := plate.CheckPlan(of(1, 4), of(4, 1, 4)); m != 3 || e != api.OK {
		t.Error(m, e)
	}
}

func exampleHeights(t *testing.T) {
	if l, e := plate.Heights(of(1, 4)); !slices.Equal(l, of(0, 1, 2, 3, 1, 2, 3, 2)) || e != api.OK {
		t.Error(l, e)
	}
	if l, e := plate.Heights(of(4)); !slices.Equal(l, of(0, 20, 20, 20, 1, 20, 20, 20)) || e != api.OK {
		t.Error(l, e)
	}
	if e := plate.CheckHeights(of(1, 4), of(0, 1, 1, 1, 1, 1, 1, 1)); e != api.OK {
		t.Error(e)
	}
	if e := plate.CheckHeights(of(1, 4), of(0, 1, 2, 3, 1, 2, 4, 2)); e != api.ErrSum {
		t.Error(e)
	}
}

func exampleForms(t *testing.T) {
	if l, e := plate.Stays(plateP()); !slices.Equal(l, of(0, 7)) || e != api.OK {
		t.Error(l, e)
	}
	if p, m, e := plate.Least(plateP(), of(1, 4)); !same(p, square(2, 0, 0, 0, 1)) || m != 2 || e != api.OK {
		t.Error(p, m, e)
	}
	if p, m, e := plate.Least(plateP(), of(4)); !same(p, square(2, 0, 1, 0, 0)) || m != 4 || e != api.OK {
		t.Error(p, m, e)
	}
	alike := func(kinds []int, want int, errno api.Errno) {
		if m, e := plate.Alike(plateP(), plateQ(), kinds); m != want || e != errno {
			t.Error(kinds, m, e)
		}
	}
	alike(of(1, 4), 1, api.OK)
	alike(of(4), 4, api.OK)
	alike(of(2), 0, api.ErrNone)
}

func exampleCounts(t *testing.T) {
	circles := func(size, motion, want int) {
		if n, e := plate.Circles(size, motion); n != want || e != api.OK {
			t.Error(size, motion, n, e)
		}
	}
	circles(2, 1, 1)
	circles(2, 2, 2)
	circles(2, 7, 3)
	circles(3, 1, 3)
	count := func(size int, kinds []int, want int64, errno api.Errno) {
		if n, e := plate.Count(size, 2, kinds); n != want || e != errno {
			t.Error(size, kinds, n, e)
		}
	}
	count(2, of(1), 6, api.OK)
	count(2, of(1, 4), 6, api.OK)
	count(6, of(1), 0, api.ErrOver)
}
