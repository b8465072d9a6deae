package punch_test

import (
	"slices"
	"testing"

	"burin/api"
	"burin/punch"
)

// planFor, fewestFor, timesFor, chosenFor, heaviestFor and kindsFor are results of package punch that have no error, but
// for a plan, which there may not be.
func planFor(t *testing.T, j api.PunchJob) bool {
	t.Helper()
	l, e := punch.Plan(j)
	if e != api.OK && e != api.ErrPlan || e == api.OK && punch.CheckPlan(j, l) != api.OK {
		t.Fatal(j, l, e)
	}
	return e == api.OK
}
func fewestFor(t *testing.T, j api.PunchJob) int {
	t.Helper()
	n, e := punch.Fewest(j)
	if e != api.OK {
		t.Fatal(j, e)
	}
	return n
}
func timesFor(t *testing.T, j api.PunchJob, i int) []int {
	t.Helper()
	l, e := punch.Times(j, i)
	if e != api.OK && e != api.ErrPlan {
		t.Fatal(j, i, e)
	}
	return l
}
func chosenFor(t *testing.T, j api.PunchJob) []int {
	t.Helper()
	l, e := punch.Chosen(j)
	if e != api.OK {
		t.Fatal(j, e)
	}
	return l
}
func heaviestFor(t *testing.T, j api.PunchJob) int64 {
	t.Helper()
	n, e := punch.Heaviest(j)
	if e != api.OK {
		t.Fatal(j, e)
	}
	return n
}
func kindsFor(t *testing.T, j api.PunchJob) []int {
	t.Helper()
	var out []int
	for i := range j.Stars {
		n, e := punch.Kind(j, i)
		if e != api.OK {
			t.Fatal(j, i, e)
		}
		out = append(out, n)
	}
	return out
}

// struckFor tells whether stars can be struck.
func struckFor(t *testing.T, j api.PunchJob, stars []int) bool {
	t.Helper()
	_, e := punch.CheckStruck(j, stars)
	if e != api.OK && e != api.ErrPlan {
		t.Fatal(j, stars, e)
	}
	return e == api.OK
}

// severalJobs throws jobs of all sizes.
func severalJobs(seed dice, small, great int) []api.PunchJob {
	return append(jobs(seed, small), greatJobs(seed+1, great)...)
}

func TestP5_8_Either(t *testing.T) {
	var seen [2]int
	for _, j := range slices.Concat(severalJobs(30, 3000, 500), allJobs(1, 3, 4), allJobs(1, 4, 3), allJobs(2, 2, 6)) {
		narrow := 0
		for _, w := range windowsOf(j) {
			if _, e := punch.CheckWindow(j, w[0], w[1]); e == api.OK {
				narrow++
			}
		}
		from, to, e := punch.Window(j)
		_, f := punch.CheckWindow(j, from, to)
		if planFor(t, j) {
			seen[1]++
			if narrow > 0 || e != api.ErrNone {
				t.Fatal(j, narrow, from, to, e)
			}
		} else {
			seen[0]++
			if narrow == 0 || e != api.OK || f != api.OK {
				t.Fatal(j, narrow, from, to, e, f)
			}
		}
	}
	if min(seen[0], seen[1]) < 1000 {
		t.Error("too few of a kind:", seen)
	}
}

func TestP5_9_Heavy(t *testing.T) {
	for _, j := range jobs(31, 1500) {
		chosen := chosenFor(t, j)
		weight, e := punch.CheckStruck(j, chosen)
		if e != api.OK || weight != heaviestFor(t, j) || weight != weightOf(j, maskOf(chosen)) {
			t.Fatal(j, chosen, weight, e)
		}
		for mask := range 1 << len(j.Stars) {
			stars := starsOf(mask)
			if n, e := punch.CheckStruck(j, stars); e == api.OK && (n > weight || len(stars) > len(chosen)) {
				t.Fatal(j, chosen, weight, stars, n)
			}
		}
	}
}

func TestP5_9_GreatHeavy(t *testing.T) {
	d := dice(32)
	for _, j := range greatJobs(33, 300) {
		chosen := chosenFor(t, j)
		weight, e := punch.CheckStruck(j, chosen)
		if e != api.OK || weight != heaviestFor(t, j) {
			t.Fatal(j, chosen, weight, e)
		}
		for range 50 {
			mask := 0 // stars that are taken in any order, while they can be struck
			for range 40 {
				if more := mask | 1<<d.upTo(len(j.Stars)-1); struck(j, more) {
					mask = more
				}
			}
			if n, e := punch.CheckStruck(j, starsOf(mask)); e != api.OK || n > weight || len(starsOf(mask)) > len(chosen) {
				t.Fatal(j, chosen, weight, starsOf(mask), n, e)
			}
		}
	}
}

func TestP5_10_Fewest(t *testing.T) {
	beyond := 0
	for _, j := range severalJobs(34, 2000, 300) {
		fewest, n := 0, fewestFor(t, j)
		for _, w := range windowsOf(j) {
			for fewest*(w[1]-w[0]+1) < starsIn(j, w[0], w[1]) {
				fewest++
			}
		}
		if n != fewest {
			t.Fatal(j, n, "not", fewest)
		}
		if n > 5 {
			beyond++
		}
		for punches := 1; punches <= 5; punches++ {
			if k := with(j, punches); planFor(t, k) != (punches >= n) || fewestFor(t, k) != n {
				t.Fatal(k, n)
			}
		}
	}
	if beyond < 20 {
		t.Error("too few that need more than there can be:", beyond)
	}
}

// noLess checks that a job with more of something has a plan if the job had one, and that Heaviest is no less.
func noLess(t *testing.T, j, more api.PunchJob) {
	t.Helper()
	if planFor(t, j) && !planFor(t, more) || heaviestFor(t, more) < heaviestFor(t, j) {
		t.Fatal(j, more)
	}
}

func TestP5_11_More(t *testing.T) {
	d := dice(35)
	for _, j := range severalJobs(36, 1500, 300) {
		if j.Punches < 5 {
			noLess(t, j, with(j, j.Punches+1))
		}
		if j.Life < 20 {
			longer := j
			longer.Life = d.from(j.Life+1, 20)
			noLess(t, j, longer)
		}
		for i, s := range j.Stars {
			if s.To < j.Life-1 {
				s.To = d.from(s.To+1, j.Life-1)
				noLess(t, j, withStar(j, i, s))
			}
		}
		if len(j.Stars) < 16 {
			s := d.star(j.Life, j.Life, 100)
			before, behind := heaviestFor(t, j), heaviestFor(t, withStar(j, len(j.Stars), s))
			if behind < before || behind > before+s.Weight {
				t.Fatal(j, s, before, behind)
			}
		}
	}
}

func TestP5_12_Turned(t *testing.T) {
	for _, j := range severalJobs(37, 1500, 200) {
		turned := copyOf(j)
		for i, s := range j.Stars {
			turned.Stars[i].From, turned.Stars[i].To = j.Life-1-s.To, j.Life-1-s.From
		}
		if planFor(t, j) != planFor(t, turned) || fewestFor(t, j) != fewestFor(t, turned) || heaviestFor(t, j) != heaviestFor(t, turned) {
			t.Fatal(j, turned)
		}
		if a, b := kindsFor(t, j), kindsFor(t, turned); !slices.Equal(a, b) {
			t.Fatal(j, turned, a, b)
		}
	}
}

func TestP5_13_Timed(t *testing.T) {
	for _, j := range severalJobs(38, 1000, 100) {
		for i, s := range j.Stars {
			times := timesFor(t, j, i)
			if (len(times) > 0) != planFor(t, j) {
				t.Fatal(j, i, times)
			}
			for wear := s.From; wear <= s.To; wear++ {
				alone := s
				alone.From, alone.To = wear, wear
				if planFor(t, withStar(j, i, alone)) != slices.Contains(times, wear) {
					t.Fatal(j, i, times, wear)
				}
			}
		}
	}
}

func TestP5_14_Exchanged(t *testing.T) {
	seen := 0
	for _, j := range jobs(39, 400) {
		var list [][]int
		for mask := range 1 << len(j.Stars) {
			if stars := starsOf(mask); struckFor(t, j, stars) {
				list = append(list, stars)
			}
		}
		for _, stars := range list {
			for _, others := range list {
				if len(others) >= len(stars) {
					continue
				}
				seen++
				one := slices.ContainsFunc(stars, func(i int) bool {
					both := slices.Sorted(slices.Values(append(slices.Clone(others), i)))
					return !slices.Contains(others, i) && struckFor(t, j, both)
				})
				if !one {
					t.Fatal(j, stars, others)
				}
			}
		}
	}
	if seen < 1000 {
		t.Error("too few:", seen)
	}
}

func TestP5_14_GreatExchanged(t *testing.T) {
	d := dice(40)
	seen := 0
	for _, j := range greatJobs(41, 3000) {
		stars, others := starsOf(d.upTo(1<<len(j.Stars)-1)), starsOf(d.upTo(1<<len(j.Stars)-1))
		if len(others) > len(stars) {
			stars, others = others, stars
		}
		if len(others) == len(stars) || !struckFor(t, j, stars) || !struckFor(t, j, others) {
			continue
		}
		seen++
		one := slices.ContainsFunc(stars, func(i int) bool {
			both := slices.Sorted(slices.Values(append(slices.Clone(others), i)))
			return !slices.Contains(others, i) && struckFor(t, j, both)
		})
		if !one {
			t.Fatal(j, stars, others)
		}
	}
	if seen < 300 {
		t.Error("too few:", seen)
	}
}

func TestP5_15_Apart(t *testing.T) {
	d := dice(42)
	var seen [4]int
	for range 3000 {
		one, two := d.job(5, 10, 8), d.job(5, 10, 8)
		two.Punches = one.Punches
		both := copyOf(one)
		both.Life += two.Life
		for _, s := range two.Stars {
			s.From, s.To = s.From+one.Life, s.To+one.Life
			both.Stars = append(both.Stars, s)
		}
		if punch.CheckJob(both) != api.OK {
			t.Fatal("not a job:", both)
		}
		kind := 0
		if planFor(t, one) {
			kind++
		}
		if planFor(t, two) {
			kind += 2
		}
		seen[kind]++
		if planFor(t, both) != (kind == 3) || heaviestFor(t, both) != heaviestFor(t, one)+heaviestFor(t, two) {
			t.Fatal(one, two, both)
		}
	}
	if slices.Min(seen[:]) < 100 {
		t.Error("too few of a kind:", seen)
	}
}
