package punch_test

import (
	"slices"
	"testing"

	"burin/api"
	"burin/punch"
)

// asked is what functions are asked.
type asked struct {
	j        api.PunchJob
	plan     []int
	from, to int
	star     int
	stars    []int
}

// right is something that no function has an error for but CheckWindow and Window, as there is a plan.
func right() asked {
	return asked{jobK(), of(1, 0, 3, 2, 3), 0, 3, 4, of(0, 2, 4)}
}

// The indexes of the errors that answers returns.
const (
	forCheckJob = iota
	forCheckPlan
	forPlan
	forCheckWindow
	forWindow
	forFewest
	forTimes
	forCheckStruck
	forChosen
	forHeaviest
	forKind
	functions
)

// usual is the error that a function has for what is right.
func usual(function int) api.Errno {
	switch function {
	case forCheckWindow:
		return api.ErrSum
	case forWindow:
		return api.ErrNone
	}
	return api.OK
}

// answers calls each function, and returns the errors. It reports other results that are not zero, together with an error.
func answers(t *testing.T, a asked) [functions]api.Errno {
	t.Helper()
	var e [functions]api.Errno
	var zero [functions]bool
	e[forCheckJob], zero[forCheckJob] = punch.CheckJob(a.j), true
	e[forCheckPlan], zero[forCheckPlan] = punch.CheckPlan(a.j, a.plan), true
	list, err := punch.Plan(a.j)
	e[forPlan], zero[forPlan] = err, len(list) == 0
	n, err := punch.CheckWindow(a.j, a.from, a.to)
	e[forCheckWindow], zero[forCheckWindow] = err, n == 0
	from, to, err := punch.Window(a.j)
	e[forWindow], zero[forWindow] = err, from == 0 && to == 0
	n, err = punch.Fewest(a.j)
	e[forFewest], zero[forFewest] = err, n == 0
	list, err = punch.Times(a.j, a.star)
	e[forTimes], zero[forTimes] = err, len(list) == 0
	sum, err := punch.CheckStruck(a.j, a.stars)
	e[forCheckStruck], zero[forCheckStruck] = err, sum == 0
	list, err = punch.Chosen(a.j)
	e[forChosen], zero[forChosen] = err, len(list) == 0
	sum, err = punch.Heaviest(a.j)
	e[forHeaviest], zero[forHeaviest] = err, sum == 0
	n, err = punch.Kind(a.j, a.star)
	e[forKind], zero[forKind] = err, n == 0
	for i := range e {
		if e[i] != api.OK && !zero[i] {
			t.Error("a result with an error:", i, e[i], a)
		}
	}
	return e
}

// expect checks that functions return an error, and all others the errors of what is right.
func expect(t *testing.T, a asked, errno api.Errno, which ...int) {
	t.Helper()
	for i, e := range answers(t, a) {
		want := usual(i)
		if slices.Contains(which, i) {
			want = errno
		}
		if e != want {
			t.Error("function", i, e, "not", want, a)
		}
	}
}

func TestRight(t *testing.T) {
	expect(t, right(), api.OK)
}

// wrong is a job that is not valid, with its error.
type wrong struct {
	why string
	j   api.PunchJob
	e   api.Errno
}

func wrongJobs() []wrong {
	many := func(punches, life, from, to, weight int) api.PunchJob {
		return job(punches, life, slices.Repeat(of(from, to, weight), 17)...)
	}
	return []wrong{
		{"zero", api.PunchJob{}, api.ErrRange},
		{"no punches", with(jobJ(), 0), api.ErrRange},
		{"punches below 0", with(jobJ(), -1), api.ErrRange},
		{"6 punches", with(jobJ(), 6), api.ErrRange},
		{"6 punches, no stars", job(6, 5), api.ErrRange},
		{"no life", job(1, 0), api.ErrRange},
		{"life below 0", job(1, -5), api.ErrRange},
		{"life 21", job(1, 21, 0, 1, 5), api.ErrRange},
		{"life 21, no stars", job(1, 21), api.ErrRange},
		{"17 stars", many(1, 5, 0, 4, 1), api.ErrMany},
		{"17 stars, no punches", many(0, 5, 0, 4, 1), api.ErrRange},
		{"17 stars, 6 punches", many(6, 5, 0, 4, 1), api.ErrRange},
		{"17 stars, no life", many(1, 0, 0, 4, 1), api.ErrRange},
		{"17 stars, life 21", many(1, 21, 0, 4, 1), api.ErrRange},
		{"17 stars, a From", many(1, 5, -1, 4, 1), api.ErrMany},
		{"17 stars, a To", many(1, 5, 0, 5, 1), api.ErrMany},
		{"17 stars, a Weight", many(1, 5, 0, 4, 0), api.ErrMany},
		{"a From below 0", job(1, 5, -1, 2, 1), api.ErrRange},
		{"both below 0", job(1, 5, -2, -1, 1), api.ErrRange},
		{"a From that is Life", job(1, 5, 5, 5, 1), api.ErrRange},
		{"a To less than From", job(1, 5, 3, 2, 1), api.ErrRange},
		{"a To that is Life", job(1, 5, 3, 5, 1), api.ErrRange},
		{"a To beyond a Life of 1", job(1, 1, 0, 1, 1), api.ErrRange},
		{"a To beyond a Life of 20", job(5, 20, 0, 20, 1), api.ErrRange},
		{"a Weight of 0", job(1, 5, 0, 0, 0), api.ErrRange},
		{"a Weight below 0", job(1, 5, 0, 0, -1), api.ErrRange},
		{"a Weight of 101", job(1, 5, 0, 0, 101), api.ErrRange},
		{"the last star", withStar(full(), 15, star(0, 20, 100)), api.ErrRange},
		{"the last Weight", withStar(full(), 15, star(0, 19, 101)), api.ErrRange},
	}
}

func TestP5_1_CheckJob(t *testing.T) {
	for i, j := range []api.PunchJob{
		jobJ(), jobK(), full(), job(1, 1), job(5, 1), job(1, 20), job(5, 20),
		job(1, 1, 0, 0, 1), job(1, 1, 0, 0, 100), job(1, 20, 19, 19, 1), job(1, 20, 0, 19, 50), job(2, 5, 4, 4, 7),
		{Punches: 1, Life: 1, Stars: []api.PunchStar{}},
	} {
		if e := punch.CheckJob(j); e != api.OK {
			t.Error(i, e)
		}
	}
	for _, x := range wrongJobs() {
		if e := punch.CheckJob(x.j); e != x.e {
			t.Error(x.why, e, "not", x.e)
		}
	}
	for _, x := range extremes {
		for _, j := range []api.PunchJob{
			with(jobJ(), x), job(1, x), job(x, x), job(1, x, 0, 1, 1), job(1, 5, x, 4, 1), job(1, 5, 0, x, 1), job(1, 5, x, x, 1),
			job(1, 5, 0, 4, x), job(1, 5, 0, 4, 1, 0, 4, x),
		} {
			if e := punch.CheckJob(j); e != api.ErrRange {
				t.Error(j, e)
			}
		}
	}
}

// TestP5_1_EachNumber checks for all numbers about the limits which ones are valid.
func TestP5_1_EachNumber(t *testing.T) {
	for x := -3; x < 110; x++ {
		for i, y := range []struct {
			j     api.PunchJob
			valid bool
		}{
			{job(x, 3), 1 <= x && x <= 5},
			{job(3, x), 1 <= x && x <= 20},
			{job(3, 20, x, 19, 1), 0 <= x && x <= 19},
			{job(3, 20, 0, x, 1), 0 <= x && x <= 19},
			{job(3, 20, 7, x, 1), 7 <= x && x <= 19},
			{job(3, 9, x, 7, 1), 0 <= x && x <= 7},
			{job(3, 9, 7, x, 1), 7 <= x && x <= 8},
			{job(3, 9, 7, 8, x), 1 <= x && x <= 100},
		} {
			if e := punch.CheckJob(y.j); (e == api.OK) != y.valid || !y.valid && e != api.ErrRange {
				t.Error(i, x, e)
			}
		}
	}
	for n := range 40 {
		want := api.OK
		if n > 16 {
			want = api.ErrMany
		}
		if e := punch.CheckJob(job(1, 5, slices.Repeat(of(0, 4, 1), n)...)); e != want {
			t.Error(n, e)
		}
	}
}

// TestJobFirst checks that the error of a job comes before all others.
func TestJobFirst(t *testing.T) {
	for _, x := range wrongJobs() {
		a := right()
		a.j = x.j
		for _, a := range []asked{a, {x.j, nil, 0, 0, 0, nil}, {x.j, make([]int, 30), -1, -2, 99, of(99, 98)}} {
			for i, e := range answers(t, a) {
				if e != x.e {
					t.Error(x.why, i, e, "not", x.e, a)
				}
			}
		}
	}
}

// TestStars checks which numbers are stars.
func TestStars(t *testing.T) {
	for _, x := range append(extremes, -100, -1, 5, 6, 16, 100) {
		a := right()
		a.star = x
		expect(t, a, api.ErrArg, forTimes, forKind)
		if l, e := punch.Times(jobJ(), x); len(l) > 0 || e != api.ErrArg { // before ErrPlan
			t.Error(x, l, e)
		}
		if n, e := punch.Kind(jobJ(), x); n != 0 || e != api.ErrArg {
			t.Error(x, n, e)
		}
	}
	for i := range 5 {
		a := right()
		a.star = i
		expect(t, a, api.OK)
	}
	a := asked{j: full(), plan: []int{0, 1, 2, 3, 4, 5, 6, 7, 8, 9, 10, 11, 12, 13, 14, 15}, star: 15}
	expect(t, a, api.OK)
	a.star = 16
	expect(t, a, api.ErrArg, forTimes, forKind)
	a = asked{j: job(1, 1)}
	expect(t, a, api.ErrArg, forTimes, forKind)
}

func TestP5_2_CheckPlan(t *testing.T) {
	k := jobK()
	for i, x := range []struct {
		j    api.PunchJob
		plan []int
		e    api.Errno
	}{
		{k, of(1, 0, 3, 2, 3), api.OK},
		{k, of(0, 0, 1, 2, 3), api.OK},
		{k, of(0, 0, 1, 3, 3), api.OK},
		{k, of(0, 0, 3, 3, 3), api.ErrFull},
		{with(k, 3), of(0, 0, 3, 3, 3), api.OK},
		{jobJ(), of(0, 0, 1, 2, 3), api.ErrFull},
		{jobJ(), of(1, 0, 1, 2, 3), api.ErrFull},
		{jobJ(), of(1, 0, 2, 3, 3), api.ErrFull},
		{k, nil, api.ErrEqual},
		{k, of(0, 0, 1, 2), api.ErrEqual},
		{k, of(0, 0, 1, 2, 3, 3), api.ErrEqual},
		{job(1, 1), nil, api.OK},
		{job(1, 1), of(0), api.ErrEqual},
		{k, of(2, 0, 1, 2, 3), api.ErrPunch},
		{k, of(-1, 0, 1, 2, 3), api.ErrPunch},
		{k, of(0, 0, 0, 2, 3), api.ErrPunch},
		{k, of(0, 0, 4, 2, 3), api.ErrPunch},
		{k, of(0, 0, 1, 2, 2), api.ErrPunch},
		{k, of(0, 0, 1, 2, 4), api.ErrPunch},
		{k, of(0, 0, 1, 2, 20), api.ErrPunch},
		{full(), slices.Repeat(of(0, 7, 18, 19), 4), api.OK},
		{full(), slices.Repeat(of(19, 19, 19, 19, 18, 19, 18, 18), 2), api.ErrFull},
		{job(5, 20, slices.Repeat(of(19, 19, 1), 5)...), slices.Repeat(of(19), 5), api.OK},
		{job(5, 20, slices.Repeat(of(19, 19, 1), 6)...), slices.Repeat(of(19), 6), api.ErrFull},
		// R1
		{k, of(-1, 9, 9, 9), api.ErrEqual},
		{jobJ(), of(3, 3, 3, 3, 3, 3), api.ErrEqual},
		{jobJ(), of(0, 0, 1, 2, 4), api.ErrPunch},
		{jobJ(), of(0, 0, 3, 3, 9), api.ErrPunch},
	} {
		if e := punch.CheckPlan(x.j, x.plan); e != x.e {
			t.Error(i, e, "not", x.e)
		}
	}
	for _, x := range extremes {
		for i := range 5 {
			plan := of(0, 0, 1, 2, 3)
			plan[i] = x
			if e := punch.CheckPlan(k, plan); e != api.ErrPunch {
				t.Error(x, i, e)
			}
		}
	}
}

func TestP5_2_CheckAnyPlan(t *testing.T) {
	d := dice(1)
	var seen [30]int
	for _, j := range append(jobs(2, 3000), greatJobs(3, 300)...) {
		for range 10 {
			plan := make([]int, len(j.Stars), len(j.Stars)+1)
			for i, s := range j.Stars {
				plan[i] = d.from(s.From, s.To)
				if d.upTo(60) == 0 {
					plan[i] += d.from(-2, 2)
				}
			}
			switch d.upTo(20) {
			case 0:
				plan = append(plan, 0)
			case 1:
				plan = plan[:len(plan)/2]
			}
			want := isPlan(j, plan)
			if e := punch.CheckPlan(j, plan); e != want {
				t.Fatal(j, plan, e, "not", want)
			}
			seen[want]++
		}
	}
	if min(seen[api.OK], seen[api.ErrEqual], seen[api.ErrPunch], seen[api.ErrFull]) < 1000 {
		t.Error("too few of a kind:", seen)
	}
}

// TestDefinitions checks the definitions that are not told as the chapter tells them.
func TestDefinitions(t *testing.T) {
	for _, j := range jobs(4, 3000) {
		all := allPlans(j)
		plan, ok := firstPlanOf(j)
		if hasPlan(j) != (len(all) > 0) || ok != (len(all) > 0) || ok && !slices.Equal(plan, all[0]) {
			t.Fatal(j, all, plan)
		}
	}
}

func TestP5_2_Plan(t *testing.T) {
	for i, x := range []struct {
		j    api.PunchJob
		plan []int
	}{
		{job(1, 1), nil},
		{job(1, 1, 0, 0, 9), of(0)},
		{job(1, 20, 19, 19, 9), of(19)},
		{job(1, 20, 3, 19, 9), of(3)},
		{job(1, 3, 0, 2, 1, 0, 1, 1, 0, 0, 1), of(2, 1, 0)},
		{job(1, 3, 0, 0, 1, 0, 1, 1, 0, 2, 1), of(0, 1, 2)},
		{job(1, 4, 0, 3, 1, 1, 2, 1, 1, 2, 1), of(0, 1, 2)},
		{job(1, 4, 1, 3, 1, 1, 2, 1, 1, 2, 1), of(3, 1, 2)},
		{job(2, 3, 0, 2, 1, 0, 2, 1, 0, 0, 1), of(0, 1, 0)},
		{job(3, 2, slices.Repeat(of(0, 1, 1), 6)...), of(0, 0, 0, 1, 1, 1)},
		{full(), of(0, 0, 0, 0, 0, 1, 1, 1, 1, 1, 2, 2, 2, 2, 2, 3)},
		{with(full(), 1), of(0, 1, 2, 3, 4, 5, 6, 7, 8, 9, 10, 11, 12, 13, 14, 15)},
	} {
		if l, e := punch.Plan(x.j); !slices.Equal(l, x.plan) || e != api.OK {
			t.Error(i, l, e, "not", x.plan)
		}
	}
	for i, j := range []api.PunchJob{
		job(1, 1, 0, 0, 1, 0, 0, 1),
		job(5, 1, slices.Repeat(of(0, 0, 1), 6)...),
		job(1, 15, slices.Repeat(of(0, 14, 1), 16)...),
		job(3, 20, slices.Repeat(of(15, 19, 1), 16)...),
		job(1, 20, 18, 19, 1, 19, 19, 1, 18, 18, 1),
	} {
		if l, e := punch.Plan(j); len(l) > 0 || e != api.ErrPlan {
			t.Error(i, l, e)
		}
	}
}

// checkFirst checks that Plan returns a plan, or its error.
func checkFirst(t *testing.T, j api.PunchJob, plan []int, ok bool) {
	t.Helper()
	want := api.OK
	if !ok {
		want = api.ErrPlan
	}
	if l, e := punch.Plan(j); !slices.Equal(l, plan) || e != want {
		t.Fatal(j, l, e, "not", plan, want)
	}
}

func TestP5_2_First(t *testing.T) {
	list := slices.Concat(jobs(5, 2000), allJobs(1, 3, 4), allJobs(2, 2, 6))
	for _, j := range list {
		if all := allPlans(j); len(all) > 0 {
			checkFirst(t, j, all[0], true)
		} else {
			checkFirst(t, j, nil, false)
		}
	}
	var seen [2]int
	for _, j := range greatJobs(6, 400) {
		plan, ok := firstPlanOf(j)
		checkFirst(t, j, plan, ok)
		if ok {
			seen[1]++
		} else {
			seen[0]++
		}
	}
	if min(seen[0], seen[1]) < 40 {
		t.Error("too few of a kind:", seen)
	}
}

func TestP5_3_CheckWindow(t *testing.T) {
	three := job(1, 20, 18, 19, 1, 19, 19, 1, 18, 18, 1)
	for i, x := range []struct {
		j        api.PunchJob
		from, to int
		n        int
		e        api.Errno
	}{
		{jobJ(), 0, 3, 5, api.OK},
		{jobJ(), 0, 4, 0, api.ErrSum},
		{jobJ(), 1, 3, 0, api.ErrSum},
		{jobJ(), 0, 2, 0, api.ErrSum},
		{jobJ(), 4, 4, 0, api.ErrSum},
		{jobK(), 0, 3, 0, api.ErrSum},
		{jobJ(), 0, 5, 0, api.ErrArg},
		{jobJ(), 5, 5, 0, api.ErrArg},
		{jobJ(), -1, 3, 0, api.ErrArg},
		{jobJ(), -1, -1, 0, api.ErrArg},
		{jobJ(), 3, 2, 0, api.ErrArg},
		{jobJ(), 4, 0, 0, api.ErrArg},
		{three, 18, 19, 3, api.OK},
		{three, 17, 19, 0, api.ErrSum},
		{three, 19, 19, 0, api.ErrSum},
		{three, 18, 20, 0, api.ErrArg},
		{job(5, 1, slices.Repeat(of(0, 0, 1), 16)...), 0, 0, 16, api.OK},
		{job(5, 1, slices.Repeat(of(0, 0, 1), 6)...), 0, 0, 6, api.OK},
		{job(5, 1, slices.Repeat(of(0, 0, 1), 5)...), 0, 0, 0, api.ErrSum},
		{full(), 0, 19, 0, api.ErrSum},
		{job(1, 1), 0, 0, 0, api.ErrSum},
		{job(1, 1), 0, 1, 0, api.ErrArg},
	} {
		if n, e := punch.CheckWindow(x.j, x.from, x.to); n != x.n || e != x.e {
			t.Error(i, n, e, "not", x.n, x.e)
		}
	}
	for _, x := range extremes {
		for _, w := range [][2]int{{x, x}, {0, x}, {x, 3}, {x, 5}} {
			if n, e := punch.CheckWindow(jobJ(), w[0], w[1]); n != 0 || e != api.ErrArg {
				t.Error(w, n, e)
			}
		}
	}
}

func TestP5_3_EachWindow(t *testing.T) {
	for _, j := range append(jobs(7, 1000), greatJobs(8, 100)...) {
		for from := -2; from < j.Life+2; from++ {
			for to := -2; to < j.Life+2; to++ {
				n, want := 0, api.ErrArg
				if 0 <= from && from <= to && to < j.Life {
					n, want = 0, api.ErrSum
					if isNarrow(j, from, to) {
						n, want = starsIn(j, from, to), api.OK
					}
				}
				if m, e := punch.CheckWindow(j, from, to); m != n || e != want {
					t.Fatal(j, from, to, m, e, "not", n, want)
				}
			}
		}
	}
}

func TestP5_3_Window(t *testing.T) {
	list := slices.Concat(jobs(9, 3000), greatJobs(10, 500), allJobs(1, 3, 4), allJobs(2, 2, 6), []api.PunchJob{
		job(1, 20, 18, 19, 1, 19, 19, 1, 18, 18, 1),
		job(5, 1, slices.Repeat(of(0, 0, 1), 6)...),
		job(3, 20, slices.Repeat(of(15, 19, 1), 16)...),
	})
	var seen [2]int
	for _, j := range list {
		from, to, e := punch.Window(j)
		if hasPlan(j) {
			seen[1]++
			if from != 0 || to != 0 || e != api.ErrNone {
				t.Fatal(j, from, to, e)
			}
		} else {
			seen[0]++
			if e != api.OK || from < 0 || to < from || to >= j.Life || !isNarrow(j, from, to) {
				t.Fatal(j, from, to, e)
			}
		}
	}
	if min(seen[0], seen[1]) < 1000 {
		t.Error("too few of a kind:", seen)
	}
}

func TestP5_4_Fewest(t *testing.T) {
	for i, x := range []struct {
		j api.PunchJob
		n int
	}{
		{jobJ(), 2},
		{jobK(), 2},
		{with(jobJ(), 5), 2},
		{job(1, 1), 0},
		{job(5, 20), 0},
		{job(5, 20, 19, 19, 1), 1},
		{full(), 1},
		{job(5, 15, slices.Repeat(of(0, 14, 1), 16)...), 2},
		{job(1, 16, slices.Repeat(of(0, 15, 1), 16)...), 1},
		{job(5, 1, slices.Repeat(of(0, 0, 1), 5)...), 5},
		{job(5, 1, slices.Repeat(of(0, 0, 1), 6)...), 6},
		{job(1, 1, slices.Repeat(of(0, 0, 1), 16)...), 16},
		{job(2, 20, slices.Repeat(of(18, 19, 1), 15)...), 8},
	} {
		if n, e := punch.Fewest(x.j); n != x.n || e != api.OK {
			t.Error(i, n, e, "not", x.n)
		}
	}
	for _, j := range slices.Concat(jobs(11, 3000), greatJobs(12, 300), allJobs(1, 3, 4)) {
		if n, e := punch.Fewest(j); n != fewestOf(j) || e != api.OK {
			t.Fatal(j, n, e, "not", fewestOf(j))
		}
	}
}

// TestChains checks with long chains of stars that have to move on that they are moved as they may be.
func TestChains(t *testing.T) {
	d := dice(22)
	for _, j := range chains(23, 2000) {
		plan, ok := firstPlanOf(j)
		checkFirst(t, j, plan, ok)
		if l, e := punch.Chosen(j); !slices.Equal(l, chosenOf(j)) || e != api.OK {
			t.Fatal(j, l, e, "not", chosenOf(j))
		}
		for range 10 {
			mask := d.upTo(0xffff) | d.upTo(0xffff) | d.upTo(0xffff)
			want := api.OK
			if !struck(j, mask) {
				want = api.ErrPlan
			}
			if _, e := punch.CheckStruck(j, starsOf(mask)); e != want {
				t.Fatal(j, starsOf(mask), e, "not", want)
			}
		}
	}
}

// checkTimes checks Times of all stars.
func checkTimes(t *testing.T, j api.PunchJob, times func(i int) []int) {
	t.Helper()
	for i := range j.Stars {
		want, errno := times(i), api.OK
		if len(want) == 0 {
			errno = api.ErrPlan
		}
		if l, e := punch.Times(j, i); !slices.Equal(l, want) || e != errno {
			t.Fatal(j, i, l, e, "not", want, errno)
		}
	}
}

func TestP5_5_Times(t *testing.T) {
	for _, j := range slices.Concat(jobs(13, 1500), allJobs(1, 3, 4), allJobs(2, 2, 5)) {
		all := allPlans(j)
		checkTimes(t, j, func(i int) []int {
			var out []int
			for _, plan := range all {
				out = append(out, plan[i])
			}
			slices.Sort(out)
			return slices.Compact(out)
		})
	}
	for _, j := range greatJobs(14, 150) {
		checkTimes(t, j, func(i int) []int { return timesOf(j, i) })
	}
	l, e := punch.Times(full(), 15)
	if !slices.Equal(l, of(0, 1, 2, 3, 4, 5, 6, 7, 8, 9, 10, 11, 12, 13, 14, 15, 16, 17, 18, 19)) || e != api.OK {
		t.Error(l, e)
	}
}

func TestP5_6_CheckStruck(t *testing.T) {
	for i, x := range []struct {
		j     api.PunchJob
		stars []int
		n     int64
		e     api.Errno
	}{
		{jobJ(), of(1, 2, 3, 4), 15, api.OK},
		{jobJ(), of(0, 1, 2, 4), 18, api.OK},
		{jobJ(), of(0, 1), 8, api.OK},
		{jobJ(), of(4), 6, api.OK},
		{jobJ(), nil, 0, api.OK},
		{jobJ(), of(0, 1, 2, 3, 4), 0, api.ErrPlan},
		{jobK(), of(0, 1, 2, 3, 4), 20, api.OK},
		{jobJ(), of(1, 0), 0, api.ErrRange},
		{jobJ(), of(1, 1), 0, api.ErrRange},
		{jobJ(), of(0, 2, 1), 0, api.ErrRange},
		{jobJ(), of(-1), 0, api.ErrRange},
		{jobJ(), of(-1, 0), 0, api.ErrRange},
		{jobJ(), of(5), 0, api.ErrRange},
		{jobJ(), of(0, 5), 0, api.ErrRange},
		{jobJ(), of(0, 1, 2, 3, 4, 5), 0, api.ErrRange},
		{jobJ(), of(0, 1, 2, 3, 4, 4), 0, api.ErrRange}, // not ErrPlan
		{job(1, 1), nil, 0, api.OK},
		{job(1, 1), of(0), 0, api.ErrRange},
		{full(), starsOf(0xffff), 1600, api.OK},
		{full(), of(15), 100, api.OK},
		{full(), of(15, 16), 0, api.ErrRange},
		{full(), make([]int, 17), 0, api.ErrRange},
	} {
		if n, e := punch.CheckStruck(x.j, x.stars); n != x.n || e != x.e {
			t.Error(i, n, e, "not", x.n, x.e)
		}
	}
	for _, x := range extremes {
		for _, stars := range [][]int{of(x), of(0, x), of(x, 0), of(x, x), of(0, 1, 2, 3, x)} {
			if n, e := punch.CheckStruck(jobJ(), stars); n != 0 || e != api.ErrRange {
				t.Error(stars, n, e)
			}
		}
	}
}

func TestP5_6_EachChoice(t *testing.T) {
	check := func(j api.PunchJob, mask int) {
		n, want := weightOf(j, mask), api.OK
		if !struck(j, mask) {
			n, want = 0, api.ErrPlan
		}
		if m, e := punch.CheckStruck(j, starsOf(mask)); m != n || e != want {
			t.Fatal(j, starsOf(mask), m, e, "not", n, want)
		}
	}
	for _, j := range jobs(15, 1000) {
		for mask := range 1 << len(j.Stars) {
			check(j, mask)
		}
	}
	d := dice(16)
	for _, j := range greatJobs(17, 200) {
		for range 50 {
			check(j, d.upTo(1<<len(j.Stars)-1))
		}
	}
}

func TestP5_7_Chosen(t *testing.T) {
	for i, x := range []struct {
		j      api.PunchJob
		chosen []int
		weight int64
	}{
		{jobJ(), of(0, 1, 2, 4), 18},
		{jobK(), of(0, 1, 2, 3, 4), 20},
		{job(1, 1), nil, 0},
		{job(1, 1, 0, 0, 4, 0, 0, 4), of(0), 4},
		{job(1, 1, 0, 0, 4, 0, 0, 5), of(1), 5},
		{job(2, 1, 0, 0, 4, 0, 0, 5, 0, 0, 4), of(0, 1), 9},
		{job(1, 3, 0, 2, 9, 0, 0, 5, 1, 1, 5), of(0, 1, 2), 19}, // the heaviest one has to move away
		{job(1, 2, 0, 0, 3, 0, 1, 3, 1, 1, 3), of(0, 1), 6},
		{job(1, 2, 0, 1, 1, 0, 1, 100, 0, 0, 99, 1, 1, 2), of(1, 2), 199},
		{full(), starsOf(0xffff), 1600},
		{job(5, 1, slices.Repeat(of(0, 0, 100), 16)...), of(0, 1, 2, 3, 4), 500},
	} {
		if l, e := punch.Chosen(x.j); !slices.Equal(l, x.chosen) || e != api.OK {
			t.Error(i, l, e, "not", x.chosen)
		}
		if n, e := punch.Heaviest(x.j); n != x.weight || e != api.OK {
			t.Error(i, n, e, "not", x.weight)
		}
	}
	for _, j := range slices.Concat(jobs(18, 2000), greatJobs(19, 400)) {
		if l, e := punch.Chosen(j); !slices.Equal(l, chosenOf(j)) || e != api.OK {
			t.Fatal(j, l, e, "not", chosenOf(j))
		}
	}
}

func TestP5_7_HeaviestAndKind(t *testing.T) {
	var seen [3]int
	for _, j := range append(jobs(20, 2000), job(1, 2, 0, 0, 3, 0, 1, 3, 1, 1, 3), job(1, 1, 0, 0, 4, 0, 0, 4)) {
		masks, weight := heaviestOf(j)
		if n, e := punch.Heaviest(j); n != weight || e != api.OK {
			t.Fatal(j, n, e, "not", weight)
		}
		for i := range j.Stars {
			want := kindOf(masks, i)
			if n, e := punch.Kind(j, i); n != want || e != api.OK {
				t.Fatal(j, i, n, e, "not", want)
			}
			seen[want]++
		}
	}
	if min(seen[api.PunchNever], seen[api.PunchMay], seen[api.PunchAlways]) < 500 {
		t.Error("too few of a kind:", seen)
	}
}

// TestP5_7_GreatKind checks Kind of jobs with many stars by what a star adds to a heaviest choice of the others, and how
// heavy one can be of which it is a part.
func TestP5_7_GreatKind(t *testing.T) {
	var seen [3]int
	for _, j := range greatJobs(21, 250) {
		most := weightOf(j, maskOf(chosenOf(j)))
		if n, e := punch.Heaviest(j); n != most || e != api.OK {
			t.Fatal(j, n, e, "not", most)
		}
		for i, s := range j.Stars {
			others := part(j, 1<<len(j.Stars)-1-1<<i)
			// One that weighs more than all others together is in each heaviest choice.
			forced := copyOf(j)
			forced.Stars[i].Weight = 10000
			want := api.PunchAlways
			switch {
			case weightOf(forced, maskOf(chosenOf(forced)))-10000+s.Weight < most:
				want = api.PunchNever
			case weightOf(others, maskOf(chosenOf(others))) == most:
				want = api.PunchMay
			}
			if n, e := punch.Kind(j, i); n != want || e != api.OK {
				t.Fatal(j, i, n, e, "not", want)
			}
			seen[want]++
		}
	}
	if min(seen[api.PunchNever], seen[api.PunchMay], seen[api.PunchAlways]) < 100 {
		t.Error("too few of a kind:", seen)
	}
}
