package punch_test

import (
	"slices"
	"testing"

	"burin/api"
	"burin/punch"
)

// TestExamples is the chapter's table, line by line.
func TestExamples(t *testing.T) {
	t.Run("Plan, CheckPlan", examplePlans)
	t.Run("CheckWindow, Fewest", exampleWindows)
	t.Run("Times", exampleTimes)
	t.Run("Chosen, Heaviest, CheckStruck", exampleChoices)
	t.Run("Kind", exampleKinds)
}

func examplePlans(t *testing.T) {
	if l, e := punch.Plan(jobJ()); len(l) > 0 || e != api.ErrPlan {
		t.Error(l, e)
	}
	if l, e := punch.Plan(jobK()); !slices.Equal(l, of(0, 0, 1, 2, 3)) || e != api.OK {
		t.Error(l, e)
	}
	check := func(want api.Errno, plan ...int) {
		if e := punch.CheckPlan(jobK(), plan); e != want {
			t.Error(plan, e)
		}
	}
	check(api.OK, 1, 0, 3, 2, 3)
	check(api.ErrPunch, 0, 0, 0, 2, 3)
	check(api.ErrFull, 0, 0, 3, 3, 3)
}

func exampleWindows(t *testing.T) {
	check := func(from, to, want int, errno api.Errno) {
		if n, e := punch.CheckWindow(jobJ(), from, to); n != want || e != errno {
			t.Error(from, to, n, e)
		}
	}
	check(0, 3, 5, api.OK)
	check(1, 3, 0, api.ErrSum)
	check(0, 5, 0, api.ErrArg)
	if n, e := punch.Fewest(jobJ()); n != 2 || e != api.OK {
		t.Error(n, e)
	}
}

func exampleTimes(t *testing.T) {
	check := func(j api.PunchJob, i int, errno api.Errno, want ...int) {
		if l, e := punch.Times(j, i); !slices.Equal(l, want) || e != errno {
			t.Error(i, l, e)
		}
	}
	check(jobK(), 0, api.OK, 0, 1)
	check(jobK(), 2, api.OK, 1, 2, 3)
	check(jobJ(), 0, api.ErrPlan)
	check(jobJ(), 5, api.ErrArg)
}

func exampleChoices(t *testing.T) {
	if l, e := punch.Chosen(jobJ()); !slices.Equal(l, of(0, 1, 2, 4)) || e != api.OK {
		t.Error(l, e)
	}
	if n, e := punch.Heaviest(jobJ()); n != 18 || e != api.OK {
		t.Error(n, e)
	}
	if n, e := punch.Heaviest(jobK()); n != 20 || e != api.OK {
		t.Error(n, e)
	}
	if n, e := punch.CheckStruck(jobJ(), of(1, 2, 3, 4)); n != 15 || e != api.OK {
		t.Error(n, e)
	}
	if n, e := punch.CheckStruck(jobJ(), of(0, 1, 2, 3, 4)); n != 0 || e != api.ErrPlan {
		t.Error(n, e)
	}
}

func exampleKinds(t *testing.T) {
	check := func(j api.PunchJob, i, want int) {
		if n, e := punch.Kind(j, i); n != want || e != api.OK {
			t.Error(i, n, e)
		}
	}
	check(jobJ(), 3, 0)
	check(jobJ(), 0, 2)
	check(jobK(), 3, 2)
}

// TestG5 is example 5 of the document.
func TestG5(t *testing.T) {
	from, to, e := punch.Window(jobJ())
	if n, f := punch.CheckWindow(jobJ(), from, to); e != api.OK || n != 5 || f != api.OK {
		t.Error(from, to, e, n, f)
	}
	if l, e := punch.Plan(jobK()); punch.CheckPlan(jobK(), l) != api.OK || e != api.OK {
		t.Error(l, e)
	}
}
