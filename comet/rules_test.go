package comet_test

import (
	"math"
	"slices"
	"sync"
	"testing"

	"burin/api"
	"burin/comet"
)

// told returns all results there are, with their errors, also the path of which it is not said which one it is.
func told(t *testing.T, a asked) []int64 {
	t.Helper()
	var out []int64
	for _, e := range answers(t, a) {
		out = append(out, int64(e))
	}
	later, _ := comet.Later(a.path, a.day)
	through, _ := comet.Through(a.l, a.list)
	path, _ := comet.Path(a.l)
	only, _ := comet.Only(a.l, a.wrong)
	out = slices.Concat(out, later, through, path, only)
	at, _ := comet.At(a.path, a.day)
	on, _ := comet.CheckPath(a.l, a.path)
	most, _ := comet.Most(a.l)
	count, _ := comet.Count(a.l)
	kind, _ := comet.Kind(a.l, a.sighting)
	least, _ := comet.Least(a.l)
	return append(out, at, int64(on), int64(most), int64(count), int64(kind), int64(least))
}

// ask throws something that functions can be asked.
func (d *dice) ask() asked {
	degree := d.upTo(3)
	l := d.anyLog(degree, 10)
	if d.upTo(3) == 0 {
		l, _ = d.planted(degree, d.from(degree+1, 12))
	}
	if len(l.Sightings) <= degree {
		l, _ = d.planted(degree, degree+1)
	}
	sets := setsOf(len(l.Sightings), degree+1)
	return asked{l, d.path(degree), int64(d.upTo(60)), sets[d.upTo(len(sets)-1)], d.upTo(len(l.Sightings) - 1), d.upTo(2)}
}

// TestNilAndEmpty checks R3.
func TestNilAndEmpty(t *testing.T) {
	for i, none := range [][]int64{nil, {}} {
		a := right()
		a.path, a.list = none, of()[:len(none)]
		if i == 0 {
			a.list = nil
		}
		e := answers(t, a)
		if e[forAt] != api.ErrMany || e[forLater] != api.ErrMany || e[forThrough] != api.ErrEqual || e[forCheckPath] != api.ErrEqual {
			t.Error(i, e)
		}
	}
	for i, none := range [][]api.CometSighting{nil, {}} {
		for degree := range 4 {
			l := api.CometLog{Degree: degree, Sightings: none}
			least, e := comet.Least(l)
			on, err := comet.CheckPath(l, make([]int64, degree+1))
			if f := foundFor(t, l); f.most != 0 || least != 0 || e != api.OK || on != 0 || err != api.OK {
				t.Error(i, degree, f, least, e, on, err)
			}
		}
	}
}

// roomy returns a copy of a list with room behind it, in which there is something that no function writes.
func roomy[T any](list []T, other T) []T {
	out := append(slices.Clone(list), slices.Repeat([]T{other}, 50)...)
	return out[:len(list)]
}

// isRoomy reports whether a list that roomy returned is as it was.
func isRoomy[T comparable](list, before []T, other T) bool {
	return slices.Equal(list[:len(before)+50], append(slices.Clone(before), slices.Repeat([]T{other}, 50)...))
}

// scribble writes into all of a list, and all that is behind it.
func scribble(list []int64) {
	list = list[:cap(list)]
	for i := range list {
		list[i] = -9
	}
}

// TestArgumentsStay checks R4: no argument is changed, and a result is new memory.
func TestArgumentsStay(t *testing.T) {
	d := dice(50)
	other := api.CometSighting{Day: -7, At: -7}
	for range 300 {
		a := d.ask()
		b := a
		b.l.Sightings, b.path, b.list = roomy(a.l.Sightings, other), roomy(a.path, -7), roomy(a.list, -7)
		want := told(t, a)
		if l := told(t, b); !slices.Equal(l, want) {
			t.Fatal(a, l, want)
		}
		later, _ := comet.Later(b.path, b.day)
		same, _ := comet.Later(b.path, 0)
		through, _ := comet.Through(b.l, b.list)
		path, _ := comet.Path(b.l)
		only, _ := comet.Only(b.l, b.wrong)
		for _, list := range [][]int64{later, same, through, path, only} {
			scribble(list)
		}
		if l := told(t, b); !slices.Equal(l, want) {
			t.Fatal("kept:", a, l, want)
		}
		if !isRoomy(b.l.Sightings, a.l.Sightings, other) || !isRoomy(b.path, a.path, -7) || !isRoomy(b.list, a.list, -7) {
			t.Fatal("changed:", a, b)
		}
	}
}

// TestAgain checks R9 and R10: equal calls return equal results, whatever the order of a map, and whatever was asked between.
func TestAgain(t *testing.T) {
	d := dice(51)
	var list []asked
	var wants [][]int64
	for range 150 {
		a := d.ask()
		list = append(list, a)
		wants = append(wants, told(t, a))
	}
	for range 5 {
		for i, a := range list {
			if l := told(t, a); !slices.Equal(l, wants[i]) {
				t.Fatal(a, l, wants[i])
			}
		}
	}
}

// TestAtOnce checks that calls at the same time do not disturb one another.
func TestAtOnce(t *testing.T) {
	d := dice(52)
	a := d.ask()
	var all sync.WaitGroup
	for range 8 {
		b := d.ask()
		if d.upTo(1) == 0 {
			b = a // the same lists
		}
		want := told(t, b)
		all.Go(func() {
			for range 30 {
				if l := told(t, b); !slices.Equal(l, want) {
					t.Error(b, l, want)
					return
				}
			}
		})
	}
	all.Wait()
}

// TestAnyArguments checks P1: every function ends, and does not panic.
func TestAnyArguments(t *testing.T) {
	numbers := longs(math.MinInt64, -1<<40-1, -1<<40, -100001, -100000, -2, -1, 0, 1, 2, 3, 4, 5, 6, 11, 12, 13, 60, 61, 100000, 100001, 1<<32, 1<<40, 1<<40+1, math.MaxInt64)
	d := dice(53)
	some := func() int64 { return numbers[d.upTo(len(numbers)-1)] }
	someList := func(most int) []int64 {
		list := make([]int64, d.upTo(most))
		for i := range list {
			list[i] = some()
		}
		return list
	}
	for range 4000 {
		a := d.ask()
		change := []func(){
			func() { a.l.Degree = int(some()) },
			func() { a.l.Degree = d.upTo(3) },
			func() { a.l = with(a.l, some(), some()) },
			func() { a.l = with(a.l, 60, some()) },
			func() { a.l = begun(a.l, d.upTo(len(a.l.Sightings))) },
			func() { a.path = someList(6) },
			func() { a.path = append(slices.Clone(a.path), some()) },
			func() { a.day = some() },
			func() { a.list = append(slices.Clone(a.list), int(some())) },
			func() { a.list = of(int(some()), int(some())) },
			func() { a.sighting = int(some()) },
			func() { a.wrong = int(some()) },
		}
		for range d.from(1, 3) {
			change[d.upTo(len(change)-1)]()
		}
		told(t, a)
	}
	a := right()
	a.path, a.list, a.l.Sightings = make([]int64, 100000), make([]int, 100000), make([]api.CometSighting, 100000)
	told(t, a)
}

// TestLimits asks for as many sightings as there can be, as late and as far away as can be, and for one more.
func TestLimits(t *testing.T) {
	for degree := range 4 {
		l := log(degree)
		for day := int64(49); day <= 60; day++ {
			l = with(l, day, 100000*(2*(day%2)-1))
		}
		checkBest(t, l, pathsOf(l))
		checkOnly(t, l)
		checkLeast(t, l)
		a := asked{l, make([]int64, degree+1), 60, of(8, 9, 10, 11)[3-degree:], 11, 5}
		for i, e := range answers(t, a) {
			want := api.OK
			if i == forLeast || i == forOnly {
				want = api.ErrComet
			}
			if i == forOnly && degree > 1 {
				want = api.ErrPlan
			}
			if e != want {
				t.Error(degree, i, e, "not", want)
			}
		}
		for _, c := range []wrong{
			{"13 sightings", with(l, 60, 0), api.ErrMany},
			{"the day 61", with(begun(l, 11), 61, 0), api.ErrRange},
			{"too far", with(begun(l, 11), 60, 100001), api.ErrRange},
			{"too far below 0", with(begun(l, 11), 60, -100001), api.ErrRange},
			{"no later", with(begun(l, 11), 59, 0), api.ErrRule},
		} {
			a.l = c.l
			for i, e := range answers(t, a) {
				if slices.Contains(withLog(), i) && e != c.e {
					t.Error(c.why, degree, i, e, "not", c.e)
				}
			}
		}
	}
}
