package comet_test

import (
	"slices"
	"testing"

	"burin/api"
	"burin/comet"
)

// atFor, laterFor, checkFor, pathFor and leastFor are results of package comet that have no error.
func atFor(t *testing.T, path []int64, day int64) int64 {
	t.Helper()
	at, e := comet.At(path, day)
	if e != api.OK {
		t.Fatal(path, day, e)
	}
	return at
}
func laterFor(t *testing.T, path []int64, days int64) []int64 {
	t.Helper()
	list, e := comet.Later(path, days)
	if len(list) != len(path) || e != api.OK {
		t.Fatal(path, days, list, e)
	}
	return list
}
func checkFor(t *testing.T, l api.CometLog, path []int64) int {
	t.Helper()
	n, e := comet.CheckPath(l, path)
	if e != api.OK {
		t.Fatal(l, path, e)
	}
	return n
}
func pathFor(t *testing.T, l api.CometLog) []int64 {
	t.Helper()
	path, e := comet.Path(l)
	if len(path) != l.Degree+1 || e != api.OK {
		t.Fatal(l, path, e)
	}
	return path
}
func leastFor(t *testing.T, l api.CometLog) int {
	t.Helper()
	n, e := comet.Least(l)
	if e != api.OK {
		t.Fatal(l, e)
	}
	return n
}

// found is what is known of the best paths of a log: most and count are 0 if there is no path.
type found struct {
	most, count int
	kinds       []int
}

func foundFor(t *testing.T, l api.CometLog) found {
	t.Helper()
	var f found
	var e, err api.Errno
	f.most, e = comet.Most(l)
	f.count, err = comet.Count(l)
	if e != err || e != api.OK && e != api.ErrComet || (e == api.OK) != (f.most > 0) || (e == api.OK) != (f.count > 0) {
		t.Fatal(l, f, e, err)
	}
	for i := range l.Sightings {
		kind, err := comet.Kind(l, i)
		if err != e {
			t.Fatal(l, i, kind, err, e)
		}
		f.kinds = append(f.kinds, kind)
	}
	return f
}

func isSame(a, b found) bool {
	return a.most == b.most && a.count == b.count && slices.Equal(a.kinds, b.kinds)
}

// pathsFor returns all paths of a log, each once, in lexicographic order, as Through tells them.
func pathsFor(t *testing.T, l api.CometLog) [][]int64 {
	t.Helper()
	var out [][]int64
	for _, list := range setsOf(len(l.Sightings), l.Degree+1) {
		path, e := comet.Through(l, list)
		if e == api.OK {
			out = append(out, path)
		} else if e != api.ErrComet {
			t.Fatal(l, list, e)
		}
	}
	slices.SortFunc(out, slices.Compare)
	return slices.CompactFunc(out, slices.Equal)
}

// onFor returns the sightings that lie on a path, as At tells its places.
func onFor(t *testing.T, l api.CometLog, path []int64) []int {
	t.Helper()
	var on []int
	for i, s := range l.Sightings {
		if atFor(t, path, s.Day) == s.At {
			on = append(on, i)
		}
	}
	if n := checkFor(t, l, path); n != len(on) {
		t.Fatal(l, path, n, on)
	}
	return on
}

func TestP9_9_Shared(t *testing.T) {
	shared := [4]int{}
	for _, l := range anyLogs(20, 9, 60) {
		paths := pathsFor(t, l)
		for i, one := range paths[:min(len(paths), 60)] {
			on := onFor(t, l, one)
			for _, two := range paths[:i] {
				both := slices.DeleteFunc(onFor(t, l, two), func(i int) bool { return !slices.Contains(on, i) })
				if len(both) > l.Degree {
					t.Fatal(l, one, two, both)
				}
				if len(both) == l.Degree {
					shared[l.Degree]++
				}
			}
		}
	}
	if slices.Contains(shared[:], 0) {
		t.Error(shared) // paths share as many as they can
	}
}

// TestP9_10_Only changes so many sightings of a path, and finds it again.
func TestP9_10_Only(t *testing.T) {
	d := dice(21)
	for range 3000 {
		degree, wrong := d.upTo(3), d.upTo(5)
		need := degree + 1 + 2*wrong
		if need > 12 {
			continue
		}
		l, path := d.planted(degree, d.from(need, 12))
		for range d.upTo(wrong) {
			l.Sightings[d.upTo(len(l.Sightings)-1)].At += int64(d.from(-3, 3))
		}
		if got, e := comet.Only(l, wrong); !slices.Equal(got, path) || e != api.OK {
			t.Fatal(l, wrong, path, got, e)
		}
		if best := pathFor(t, l); !slices.Equal(best, path) {
			t.Fatal(l, wrong, path, best)
		}
	}
}

// TestP9_10_Others changes just so many sightings of a path to those of another one.
func TestP9_10_Others(t *testing.T) {
	d := dice(22)
	for range 2000 {
		degree := d.upTo(3)
		l, path := d.planted(degree, 12)
		wrong := (12 - degree - 1) / 2
		other := d.path(degree)
		for i := range wrong {
			l.Sightings[i].At = placeOf(other, l.Sightings[i].Day)
		}
		if got, e := comet.Only(l, wrong); !slices.Equal(got, path) || e != api.OK {
			t.Fatal(l, wrong, path, got, e)
		}
	}
}

func TestP9_11_Most(t *testing.T) {
	d := dice(23)
	for _, l := range anyLogs(24, 12, 60) {
		most, e := comet.Most(l)
		if e != api.OK {
			continue
		}
		best := pathFor(t, l)
		if n := checkFor(t, l, best); n != most || most <= l.Degree {
			t.Fatal(l, best, n, most)
		}
		others := pathsFor(t, l)
		for range 50 {
			near := slices.Clone(best)
			near[d.upTo(l.Degree)] += int64(d.from(-3, 3))
			others = append(others, near, d.path(l.Degree))
		}
		for _, path := range others {
			if n := checkFor(t, l, path); n > most {
				t.Fatal(l, path, n, most)
			}
		}
	}
	for list := range lists(2, -15, 15) {
		for _, l := range []api.CometLog{logL(), daily(1, 0, 2, 0, 2, 0, 2), log(1, 0, 0, 1, 5, 3, 1)} {
			most, _ := comet.Most(l)
			if n := checkFor(t, l, longs(int64(list[0]), int64(list[1]))); n > most {
				t.Fatal(l, list, n, most)
			}
		}
	}
}

func TestP9_12_Later(t *testing.T) {
	d := dice(25)
	for _, l := range anyLogs(26, 9, 60) {
		last := int64(0)
		for _, s := range l.Sightings {
			last = s.Day
		}
		days := int64(d.upTo(int(60 - last)))
		late := changed(l, func(_ int, s api.CometSighting) api.CometSighting {
			s.Day += days
			return s
		})
		if f, g := foundFor(t, l), foundFor(t, late); !isSame(f, g) {
			t.Fatal(l, days, f, g)
		}
		// The paths that are later are those whose numbers, as many days later, are as before.
		paths := pathsFor(t, l)
		lates := pathsFor(t, late)
		if len(paths) != len(lates) {
			t.Fatal(l, days, len(paths), len(lates))
		}
		for _, path := range lates {
			before := laterFor(t, path, days)
			if !slices.ContainsFunc(paths, func(p []int64) bool { return slices.Equal(p, before) }) {
				t.Fatal(l, days, path, before)
			}
			if !slices.Equal(onFor(t, l, before), onFor(t, late, path)) {
				t.Fatal(l, days, path, before)
			}
		}
	}
}

// TestP9_12_Paths checks that the place of a path that is later is that on the later day, also by several steps.
func TestP9_12_Paths(t *testing.T) {
	d := dice(27)
	for _, path := range somePaths(28, 500) {
		for range 20 {
			one := int64(d.upTo(60))
			two := int64(d.upTo(int(60 - one)))
			for _, n := range path {
				if n > 1<<10 || n < -1<<10 {
					one = 0 // numbers that are later may not be those of a path
				}
			}
			late := laterFor(t, path, one)
			if atFor(t, late, two) != atFor(t, path, one+two) || !slices.Equal(laterFor(t, late, two), laterFor(t, path, one+two)) {
				t.Fatal(path, one, two)
			}
		}
	}
}

func TestP9_13_Added(t *testing.T) {
	d := dice(29)
	added := 0
	for _, l := range anyLogs(30, 9, 60) {
		path := d.path(l.Degree)
		for i := range path {
			path[i] /= 8
		}
		more := changed(l, func(_ int, s api.CometSighting) api.CometSighting {
			s.At += atFor(t, path, s.Day)
			return s
		})
		if comet.CheckLog(more) == api.ErrRange {
			continue
		}
		added++
		if f, g := foundFor(t, l), foundFor(t, more); !isSame(f, g) {
			t.Fatal(l, path, f, g)
		}
		want := pathsFor(t, l)
		for _, p := range want {
			for k := range p {
				p[k] += path[k]
			}
		}
		slices.SortFunc(want, slices.Compare)
		if got := pathsFor(t, more); !slices.EqualFunc(got, want, slices.Equal) {
			t.Fatal(l, path, got, want)
		}
	}
	if added < 150 {
		t.Error(added)
	}
}

// back is a log whose days are counted back from the last one.
func back(l api.CometLog) api.CometLog {
	l = changed(l, func(_ int, s api.CometSighting) api.CometSighting {
		s.Day = l.Sightings[len(l.Sightings)-1].Day - s.Day
		return s
	})
	slices.Reverse(l.Sightings)
	return l
}

func TestP9_14_Turned(t *testing.T) {
	for _, l := range anyLogs(31, 10, 60) {
		f, g := foundFor(t, l), foundFor(t, back(l))
		slices.Reverse(g.kinds)
		if !isSame(f, g) {
			t.Fatal(l, f, g)
		}
	}
}

func TestP9_15_More(t *testing.T) {
	steps := [2]int{}
	for _, l := range anyLogs(32, 12, 80) {
		for n := range len(l.Sightings) {
			was, is := foundFor(t, begun(l, n)), foundFor(t, begun(l, n+1))
			if was.most == 0 {
				if is.most > l.Degree+1 { // the first path has no more sightings
					t.Fatal(l, n, was, is)
				}
				continue
			}
			if is.most < was.most || is.most > was.most+1 {
				t.Fatal(l, n, was, is)
			}
			steps[is.most-was.most]++
		}
	}
	if steps[0] < 100 || steps[1] < 100 {
		t.Error(steps)
	}
}

func TestP9_16_Least(t *testing.T) {
	d := dice(33)
	counts := [4]int{}
	for range 600 {
		degree := d.upTo(3)
		l, _ := d.planted(degree, []int{0, degree + 1, d.from(degree+1, 12)}[d.upTo(2)])
		degree = leastFor(t, l)
		l.Degree = degree
		counts[degree]++
		if len(l.Sightings) == 0 {
			if degree != 0 {
				t.Fatal(l, degree)
			}
			continue
		}
		f := foundFor(t, l)
		if f.most != len(l.Sightings) || f.count != 1 {
			t.Fatal(l, f)
		}
		path := pathFor(t, l)
		if degree > 0 && path[degree] == 0 {
			t.Fatal(l, path)
		}
		for lower := range degree {
			if most, _ := comet.Most(by(lower, l)); most == len(l.Sightings) {
				t.Fatal(l, lower, most)
			}
		}
	}
	if slices.Min(counts[:]) < 50 {
		t.Error(counts)
	}
	for _, l := range anyLogs(34, 7, 60) {
		if degree, e := comet.Least(l); e == api.OK && len(l.Sightings) > 0 {
			f := foundFor(t, by(degree, l))
			if path := pathFor(t, by(degree, l)); f.most != len(l.Sightings) || f.count != 1 || degree > 0 && path[degree] == 0 {
				t.Fatal(l, degree, f, path)
			}
		}
	}
}
