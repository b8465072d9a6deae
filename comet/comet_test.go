package comet_test

import (
	"slices"
	"testing"

	"burin/api"
	"burin/comet"
)

// asked is what functions are asked.
type asked struct {
	l               api.CometLog
	path            []int64
	day             int64
	list            []int
	sighting, wrong int
}

// right is something with paths, pathless something without: no function has another error than usual says.
func right() asked    { return asked{logL(), longs(1, 2), 4, of(0, 1), 3, 1} }
func pathless() asked { return asked{logM(), longs(1, 2), 4, of(0, 1), 1, 0} }

// The indexes of the errors that answers returns.
const (
	forAt = iota
	forLater
	forCheckLog
	forThrough
	forCheckPath
	forMost
	forPath
	forCount
	forKind
	forOnly
	forLeast
	functions
)

// withDay are the functions with a path, and no log, withLog those with a log, withBest those that need a path of the log.
func withDay() []int { return of(forAt, forLater) }
func withLog() []int {
	return of(forCheckLog, forThrough, forCheckPath, forMost, forPath, forCount, forKind, forOnly, forLeast)
}
func withBest() []int { return of(forMost, forPath, forCount, forKind) }

// usual is the error that a function has for what is right, or is without a path.
func usual(function int, paths bool) api.Errno {
	if function == forLeast || !paths && (slices.Contains(withBest(), function) || function == forThrough || function == forOnly) {
		return api.ErrComet
	}
	return api.OK
}

// answers calls each function, and returns the errors. It reports other results that are not zero, together with an error.
func answers(t *testing.T, a asked) [functions]api.Errno {
	t.Helper()
	var e [functions]api.Errno
	var zero [functions]bool
	at, err := comet.At(a.path, a.day)
	e[forAt], zero[forAt] = err, at == 0
	e[forCheckLog], zero[forCheckLog] = comet.CheckLog(a.l), true
	for i, list := range map[int]func() ([]int64, api.Errno){
		forLater:   func() ([]int64, api.Errno) { return comet.Later(a.path, a.day) },
		forThrough: func() ([]int64, api.Errno) { return comet.Through(a.l, a.list) },
		forPath:    func() ([]int64, api.Errno) { return comet.Path(a.l) },
		forOnly:    func() ([]int64, api.Errno) { return comet.Only(a.l, a.wrong) },
	} {
		path, err := list()
		e[i], zero[i] = err, len(path) == 0
	}
	for i, number := range map[int]func() (int, api.Errno){
		forCheckPath: func() (int, api.Errno) { return comet.CheckPath(a.l, a.path) },
		forMost:      func() (int, api.Errno) { return comet.Most(a.l) },
		forCount:     func() (int, api.Errno) { return comet.Count(a.l) },
		forKind:      func() (int, api.Errno) { return comet.Kind(a.l, a.sighting) },
		forLeast:     func() (int, api.Errno) { return comet.Least(a.l) },
	} {
		n, err := number()
		e[i], zero[i] = err, n == 0
	}
	for i := range e {
		if e[i] != api.OK && !zero[i] {
			t.Error("a result with an error:", i, e[i], a)
		}
	}
	return e
}

// expect checks that functions return an error, and all others those of what is right, with a path of the log, or without.
func expect(t *testing.T, a asked, paths bool, errno api.Errno, which ...int) {
	t.Helper()
	for i, e := range answers(t, a) {
		want := usual(i, paths)
		if slices.Contains(which, i) {
			want = errno
		}
		if e != want {
			t.Error("function", i, e, "not", want, a)
		}
	}
}

func TestRight(t *testing.T) {
	expect(t, right(), true, api.OK)
	expect(t, pathless(), false, api.OK)
}

// wrong is a log that is not valid, with its error.
type wrong struct {
	why string
	l   api.CometLog
	e   api.Errno
}

func wrongLogs() []wrong {
	many := make([]int64, 26)
	for i := range 13 {
		many[2*i] = int64(i)
	}
	return []wrong{
		{"degree below 0", log(-1), api.ErrArg},
		{"degree 4", by(4, logL()), api.ErrArg},
		{"degree 4, 13 sightings", log(4, many...), api.ErrArg},
		{"degree below 0, a day that is none", log(-1, 61, 0), api.ErrArg},
		{"degree 4, a place that is none", log(4, 6, 100001), api.ErrArg},
		{"degree 4, the same day", log(4, 6, 0, 6, 0), api.ErrArg},
		{"13 sightings", log(1, many...), api.ErrMany},
		{"13 sightings, degree 0", log(0, many...), api.ErrMany},
		{"13 sightings on one day", log(1, make([]int64, 26)...), api.ErrMany},
		{"13 sightings, the last day is none", log(1, append(slices.Clone(many[:24]), 61, 0)...), api.ErrMany},
		{"13 sightings, the first place is none", log(3, append(longs(0, -100001), many[2:]...)...), api.ErrMany},
		{"1000 sightings", log(2, make([]int64, 2000)...), api.ErrMany},
		{"a day below 0", log(1, -1, 0), api.ErrRange},
		{"the day 61", log(1, 61, 0), api.ErrRange},
		{"the last day is 61", log(1, 0, 1, 1, 3, 61, 5), api.ErrRange},
		{"the first day is below 0", log(1, -1, 1, 1, 3, 2, 5), api.ErrRange},
		{"a place above MaxCometAt", log(1, 5, 100001), api.ErrRange},
		{"a place below -MaxCometAt", log(1, 5, -100001), api.ErrRange},
		{"the last place is none", with(logL(), 6, 100001), api.ErrRange},
		{"the 12th place is none", log(1, append(slices.Clone(many[:22]), 11, -100001)...), api.ErrRange},
		{"days that decrease, then a place that is none", log(1, 5, 0, 4, 0, 6, 100001), api.ErrRange},
		{"the same day, then a day that is none", log(1, 5, 0, 5, 0, 61, 0), api.ErrRange},
		{"the same day", log(1, 5, 0, 5, 0), api.ErrRule},
		{"the same day, another place", log(0, 5, 1, 5, 2), api.ErrRule},
		{"days that decrease", log(2, 5, 0, 4, 0), api.ErrRule},
		{"the day 0 again", log(2, 0, 0, 0, 0, 1, 1), api.ErrRule},
		{"the last day again", with(logL(), 5, 13), api.ErrRule},
		{"the last day is before", with(logL(), 4, 9), api.ErrRule},
		{"a day in between", log(3, 1, 0, 3, 0, 2, 0, 4, 0), api.ErrRule},
		{"12 sightings on one day", log(1, make([]int64, 24)...), api.ErrRule},
	}
}

func TestWrongLogs(t *testing.T) {
	for _, w := range wrongLogs() {
		for _, a := range []asked{
			{w.l, longs(1, 2), 4, of(0, 1), 0, 1},
			{w.l, longs(1, 2), 4, nil, -1, -1}, // the error of the log comes first
			{w.l, longs(1<<40, -1<<40, 0, 0), 4, of(5, 5, 5, 5, 5), 99, 6},
		} {
			for i, e := range answers(t, a) {
				if slices.Contains(withLog(), i) && e != w.e || slices.Contains(withDay(), i) && e != api.OK {
					t.Error(w.why, i, e, "not", w.e)
				}
			}
		}
		for _, path := range [][]int64{nil, longs(1<<40 + 1), longs(0, -1<<40-1), longs(0, 0, 0, 0, 0)} {
			if n, e := comet.CheckPath(w.l, path); n != 0 || e != w.e {
				t.Error(w.why, path, n, e)
			}
		}
	}
}

func TestCheckLog(t *testing.T) {
	for i, l := range []api.CometLog{
		{}, log(3), logL(), logM(), logQ(), log(0, 0, -100000), log(1, 60, 100000), log(2, 0, 100000, 60, -100000),
		daily(0, 1, 2, 3, 4, 5, 6, 7, 8, 9, 10, 11, 12), log(3, 48, 0, 49, 0, 50, 0, 51, 0, 52, 0, 53, 0, 54, 0, 55, 0, 56, 0, 57, 0, 58, 0, 60, 0),
	} {
		if e := comet.CheckLog(l); e != api.OK {
			t.Error(i, e)
		}
	}
	for _, x := range extremes {
		for i, c := range []struct {
			l api.CometLog
			e api.Errno
		}{
			{by(int(x), logL()), api.ErrArg}, {log(1, x, 0), api.ErrRange}, {log(1, 0, x), api.ErrRange}, {log(3, 5, 0, 5, 0, x, x), api.ErrRange},
		} {
			if e := comet.CheckLog(c.l); e != c.e {
				t.Error(x, i, e)
			}
		}
	}
}

// TestWrongPaths asks At and Later for paths that are none, and for days.
func TestWrongPaths(t *testing.T) {
	for i, c := range []struct {
		path []int64
		day  int64
		e    api.Errno
	}{
		{nil, 0, api.ErrMany},
		{longs(), 61, api.ErrMany},
		{longs(1, 2, 3, 4, 5), 0, api.ErrMany},
		{longs(1<<40+1, 0, 0, 0, 0), -1, api.ErrMany},
		{make([]int64, 1000), 0, api.ErrMany},
		{longs(1<<40 + 1), 0, api.ErrRange},
		{longs(-1<<40 - 1), 0, api.ErrRange},
		{longs(0, 1<<40+1), 61, api.ErrRange},
		{longs(0, 0, -1<<40-1), -1, api.ErrRange},
		{longs(0, 0, 0, 1<<40+1), 61, api.ErrRange},
		{longs(0, 0, 0, 0), 61, api.ErrArg},
		{longs(0), -1, api.ErrArg},
		{longs(1, 2), 61, api.ErrArg},
		{longs(1<<40, -1<<40), -1, api.ErrArg},
	} {
		a := right()
		a.path, a.day = c.path, c.day
		e := answers(t, a)
		if e[forAt] != c.e || e[forLater] != c.e {
			t.Error(i, e)
		}
	}
	for _, x := range extremes {
		a := right()
		a.day = x
		expect(t, a, true, api.ErrArg, withDay()...)
		for i := range 4 {
			path := make([]int64, 4)
			path[i] = x
			for _, day := range longs(0, 60, 61, x) {
				if n, e := comet.At(path, day); n != 0 || e != api.ErrRange {
					t.Error(path, day, n, e)
				}
				if list, e := comet.Later(path, day); len(list) > 0 || e != api.ErrRange {
					t.Error(path, day, list, e)
				}
			}
		}
	}
}

// somePaths throws paths of any length, with numbers up to both limits.
func somePaths(seed dice, n int) [][]int64 {
	out := [][]int64{longs(1<<40, 1<<40, 1<<40, 1<<40), longs(-1<<40, -1<<40, -1<<40, -1<<40), longs(0), longs(1 << 40), longs(-1<<40, 1<<40), longs(0, 0, 0, 1)}
	for range n {
		var path []int64
		for range seed.from(1, 4) {
			path = append(path, seed.long(longs(1, 10, 1<<40)[seed.upTo(2)]))
		}
		out = append(out, path)
	}
	return out
}

func TestAt(t *testing.T) {
	for _, path := range somePaths(1, 300) {
		for day := range int64(61) {
			if at, e := comet.At(path, day); at != placeOf(path, day) || e != api.OK {
				t.Fatal(path, day, at, e)
			}
		}
	}
	for day, want := range longs(3, 5, 6, 7, 9, 13, 20) {
		if at, e := comet.At(longs(3, 2, -1, 1), int64(day)); at != want || e != api.OK {
			t.Error(day, at, e)
		}
	}
	for _, c := range [][]int64{{60, 60, 1}, {60, 1770, 0, 1}, {60, 34220, 0, 0, 1}, {59, 1711, 0, 1}, {2, 0, 0, 0, 1}, {1, 0, 0, 1}} {
		path := append(longs(0), c[2:]...)
		if at, e := comet.At(path, c[0]); at != c[1] || e != api.OK {
			t.Error(path, c[0], at, e)
		}
	}
}

// TestLater checks that the numbers of a path whose day 0 is later are the differences on that day.
func TestLater(t *testing.T) {
	for _, path := range somePaths(2, 300) {
		for days := range int64(61) {
			want := differencesOf(path, days)
			if list, e := comet.Later(path, days); !slices.Equal(list, want) || e != api.OK {
				t.Fatal(path, days, list, e, "not", want)
			}
		}
	}
}

// differencesOf returns the place of a path on a day, and its differences there.
func differencesOf(path []int64, day int64) []int64 {
	var now []int64
	for k := range path {
		now = append(now, placeOf(path, day+int64(k)))
	}
	for k := range now {
		for i := len(now) - 1; i > k; i-- {
			now[i] -= now[i-1]
		}
	}
	return now
}

// wantThrough is the path on which sightings lie, and the error of Through, by the definitions.
func wantThrough(l api.CometLog, list []int) ([]int64, api.Errno) {
	if len(list) != l.Degree+1 {
		return nil, api.ErrEqual
	}
	for i, n := range list {
		if n < 0 || n >= len(l.Sightings) || i > 0 && n <= list[i-1] {
			return nil, api.ErrArg
		}
	}
	path, whole := throughOf(some(l, list))
	if !whole {
		return nil, api.ErrComet
	}
	return path, api.OK
}

func checkThrough(t *testing.T, l api.CometLog, list []int) {
	t.Helper()
	path, e := comet.Through(l, list)
	if want, errno := wantThrough(l, list); !slices.Equal(path, want) || e != errno {
		t.Fatal(l, list, path, e, "not", want, errno)
	}
}

func TestThrough(t *testing.T) {
	for _, l := range []api.CometLog{logL(), logM(), logQ(), log(0, 3, 8), log(0), log(1), by(3, logQ()), log(2, 0, 0, 2, 2, 4, 0)} {
		for long := range 6 {
			for list := range lists(long, -1, 5) {
				checkThrough(t, l, list)
			}
		}
	}
	for _, l := range anyLogs(3, 12, 12) {
		for _, list := range setsOf(len(l.Sightings), l.Degree+1) {
			checkThrough(t, l, list)
		}
	}
	for l := range allLogs(2, longs(0, 3, 5), 5) {
		checkThrough(t, l, of(0, 1, 2))
	}
	for l := range allLogs(3, longs(1, 3, 4, 6), 3) {
		checkThrough(t, l, of(0, 1, 2, 3))
	}
}

func TestThroughErrors(t *testing.T) {
	for _, list := range [][]int{nil, of(0), of(0, 1, 2), of(9), of(-1, -1, -1), make([]int, 1000)} {
		a := right()
		a.list = list
		expect(t, a, true, api.ErrEqual, forThrough)
		a = pathless()
		a.list = list
		expect(t, a, false, api.ErrEqual, forThrough)
	}
	for _, list := range [][]int{of(1, 0), of(1, 1), of(1, 5), of(-1, 2), of(4, 5), of(5, 6), of(-1, 0), of(4, 4)} {
		a := right()
		a.list = list
		expect(t, a, true, api.ErrArg, forThrough)
		a = pathless()
		a.list = list
		expect(t, a, false, api.ErrArg, forThrough)
	}
	for _, x := range extremes {
		for _, list := range [][]int{of(0, int(x)), of(int(x), 1), of(int(x), int(x))} {
			a := right()
			a.list = list
			expect(t, a, true, api.ErrArg, forThrough)
		}
	}
}

// TestThroughFar checks paths with the greatest numbers: of which all sightings are at the end, and far apart from each other.
func TestThroughFar(t *testing.T) {
	for days := range lists(4, 0, 3) {
		for at := range lists(4, 0, 1) {
			l := log(3)
			for i, day := range []int64{57, 58, 59, 60} {
				if days[0] == 0 { // or in between
					day = []int64{0, 1, 2, 3, 20, 21, 22, 23, 40, 41, 42, 43, 57, 58, 59, 60}[4*i+days[i]]
				}
				l = with(l, day, 100000*int64(2*at[i]-1))
			}
			checkThrough(t, l, of(0, 1, 2, 3))
		}
	}
	far := log(3, 57, 100000, 58, -100000, 59, 100000, 60, -100000)
	path, e := comet.Through(far, of(0, 1, 2, 3))
	if len(onOf(far, path)) != 4 || path[0] != 26679900000 || e != api.OK {
		t.Error(path, e)
	}
}

func TestCheckPath(t *testing.T) {
	for _, l := range []api.CometLog{logL(), logM(), log(1), log(1, 60, 100000), daily(1, 0, 1, 2, 3, 4, 5, 4, 3, 2, 1, 0, -1)} {
		for list := range lists(2, -12, 12) {
			path := longs(int64(list[0]), int64(list[1]))
			if n, e := comet.CheckPath(l, path); n != len(onOf(l, path)) || e != api.OK {
				t.Fatal(l, path, n, e)
			}
		}
	}
	for _, l := range anyLogs(4, 12, 20) {
		paths := pathsOf(l)
		for _, path := range somePaths(5, 20) {
			if len(path) == l.Degree+1 {
				paths = append(paths, path)
			}
		}
		for _, path := range paths {
			if n, e := comet.CheckPath(l, path); n != len(onOf(l, path)) || e != api.OK {
				t.Fatal(l, path, n, e)
			}
		}
	}
}

func TestCheckPathErrors(t *testing.T) {
	for _, c := range []struct {
		path []int64
		e    api.Errno
	}{
		{nil, api.ErrEqual}, {longs(1), api.ErrEqual}, {longs(1, 2, 0), api.ErrEqual}, {longs(1 << 41), api.ErrEqual}, {longs(0, 0, 0, 0, 1<<41), api.ErrEqual},
		{longs(0, 1<<40+1), api.ErrRange}, {longs(-1<<40-1, 0), api.ErrRange}, {longs(1<<40+1, 0), api.ErrRange}, {longs(0, -1<<40-1), api.ErrRange},
		{longs(1<<40, -1<<40), api.OK}, {longs(-1<<40, 1<<40), api.OK},
	} {
		for _, l := range []api.CometLog{logL(), logM(), log(1)} {
			if n, e := comet.CheckPath(l, c.path); n != 0 || e != c.e {
				t.Error(l, c.path, n, e)
			}
		}
	}
	for _, x := range extremes {
		for i := range 4 {
			path := make([]int64, 4)
			path[i] = x
			if n, e := comet.CheckPath(by(3, logL()), path); n != 0 || e != api.ErrRange {
				t.Error(path, n, e)
			}
		}
	}
}

// checkBest checks Most, Path, Count and Kind by all paths of a log.
func checkBest(t *testing.T, l api.CometLog, paths [][]int64) {
	t.Helper()
	best, most := bestOf(l, paths)
	want := api.OK
	if len(paths) == 0 {
		want = api.ErrComet
	}
	if n, e := comet.Most(l); n != most || e != want {
		t.Fatal(l, n, e, "not", most)
	}
	if n, e := comet.Count(l); n != len(best) || e != want {
		t.Fatal(l, n, e, "not", len(best))
	}
	path, e := comet.Path(l)
	isBest := slices.ContainsFunc(best, func(p []int64) bool { return slices.Equal(p, path) })
	if e != want || e == api.OK && !isBest || e != api.OK && len(path) > 0 {
		t.Fatal(l, path, e, best)
	}
	for i := range l.Sightings {
		kind := 0
		if want == api.OK {
			kind = kindOf(l, best, i)
		}
		if k, e := comet.Kind(l, i); k != kind || e != want {
			t.Fatal(l, i, k, e, "not", kind)
		}
	}
	for _, i := range of(-1, len(l.Sightings), len(l.Sightings)+1, int(extremes[0]), int(extremes[7])) {
		if k, e := comet.Kind(l, i); k != 0 || e != api.ErrArg {
			t.Fatal(l, i, k, e)
		}
	}
}

func TestBest(t *testing.T) {
	for _, l := range anyLogs(6, 8, 150) {
		checkBest(t, l, pathsOf(l))
	}
	for _, l := range anyLogs(7, 12, 20) {
		checkBest(t, l, pathsOf(l))
	}
}

// tried returns all paths of a log of which the numbers are up to some, found by trying all of them.
func tried(l api.CometLog, up ...int) [][]int64 {
	var out [][]int64
	path := make([]int64, l.Degree+1)
	var try func(k int)
	try = func(k int) {
		if k == len(path) {
			if len(onOf(l, path)) > l.Degree {
				out = append(out, slices.Clone(path))
			}
			return
		}
		for n := -up[k]; n <= up[k]; n++ {
			path[k] = int64(n)
			try(k + 1)
		}
	}
	try(0)
	return out
}

// TestBestTried checks small logs by all paths there are, without any reckoning of differences.
func TestBestTried(t *testing.T) {
	for l := range allLogs(0, longs(0, 2, 3, 7), 2) {
		checkBest(t, l, tried(l, 2))
	}
	for l := range allLogs(1, longs(0, 1, 3), 2) {
		checkBest(t, l, tried(l, 4, 4))
	}
	for l := range allLogs(1, longs(1, 2, 4, 5), 1) {
		checkBest(t, l, tried(l, 9, 2))
	}
	for l := range allLogs(2, longs(0, 1, 3, 4), 1) {
		checkBest(t, l, tried(l, 7, 10, 4))
	}
}

// TestTied checks logs with many best paths: through each two of sightings of which no three are on a line, and so on.
func TestTied(t *testing.T) {
	for i, c := range []struct {
		l           api.CometLog
		most, count int
		kinds       []int
	}{
		{log(0, 4, 9), 1, 1, of(0)},
		{log(0, 4, 9, 5, 8), 1, 2, of(1, 1)},
		{daily(0, 0, 1, 2, 3, 4, 5, 6, 7, 8, 9, 10, 11), 1, 12, slices.Repeat(of(1), 12)},
		{daily(0, 7, 7, 5, 5, 1), 2, 2, of(1, 1, 1, 1, 2)},
		{daily(1, 0, 0, 0, 5, 0, 1), 4, 1, of(0, 0, 0, 2, 0, 2)},
		{daily(1, 0, 2, 0, 2, 0, 2), 3, 2, of(1, 1, 1, 1, 1, 1)},
		{log(1, 0, 0, 1, 5, 3, 1), 2, 2, of(1, 0, 1)},
		{log(1, 0, 0, 2, 1, 4, 4), 2, 1, of(0, 2, 0)},
		{daily(2, 0, 1, 3, 6, 7), 4, 1, of(0, 0, 0, 0, 2)},
		{daily(2, 9, 1, 1, 2, 4, 0), 4, 1, of(2, 0, 0, 0, 0, 2)},
		{daily(2, 0, 0, 1, 0), 3, 4, of(1, 1, 1, 1)},
	} {
		n, e := comet.Most(c.l)
		if n != c.most || e != api.OK {
			t.Error(i, n, e)
		}
		if n, e := comet.Count(c.l); n != c.count || e != api.OK {
			t.Error(i, n, e)
		}
		for k, want := range c.kinds {
			if n, e := comet.Kind(c.l, k); n != want || e != api.OK {
				t.Error(i, k, n, e)
			}
		}
	}
}

func TestKindErrors(t *testing.T) {
	for _, a := range []asked{right(), pathless()} {
		paths := len(a.l.Sightings) > 2
		for _, i := range append(of(-1, 5, 6, 12), len(a.l.Sightings)) {
			a.sighting = i
			expect(t, a, paths, api.ErrArg, forKind)
		}
		for _, x := range extremes {
			a.sighting = int(x)
			expect(t, a, paths, api.ErrArg, forKind)
		}
	}
	for degree := range 4 { // of no sightings there is none
		if k, e := comet.Kind(log(degree), 0); k != 0 || e != api.ErrArg {
			t.Error(degree, k, e)
		}
	}
}

// wantOnly is the path for which few sightings are wrong, and the error of Only, by the definitions.
func wantOnly(l api.CometLog, paths [][]int64, wrong int) ([]int64, api.Errno) {
	if wrong < 0 || wrong > 5 {
		return nil, api.ErrArg
	}
	if len(l.Sightings) < l.Degree+1+2*wrong {
		return nil, api.ErrPlan
	}
	for _, path := range paths {
		if len(l.Sightings)-len(onOf(l, path)) <= wrong {
			return path, api.OK
		}
	}
	return nil, api.ErrComet
}

func checkOnly(t *testing.T, l api.CometLog) {
	t.Helper()
	paths := pathsOf(l)
	for wrong := -1; wrong <= 6; wrong++ {
		path, e := comet.Only(l, wrong)
		if want, errno := wantOnly(l, paths, wrong); !slices.Equal(path, want) || e != errno {
			t.Fatal(l, wrong, path, e, "not", want, errno)
		}
	}
}

func TestOnly(t *testing.T) {
	for _, l := range anyLogs(8, 8, 100) {
		checkOnly(t, l)
	}
	d := dice(9)
	for range 200 { // near to how many sightings there have to be, and how many may be wrong
		degree, sightings := d.upTo(3), d.upTo(12)
		l, _ := d.planted(degree, sightings)
		faults := d.upTo(3)
		checkOnly(t, changed(l, func(i int, s api.CometSighting) api.CometSighting {
			if i < faults {
				s.At = d.long(30000)
			}
			return s
		}))
	}
}

func TestOnlyErrors(t *testing.T) {
	for _, a := range []asked{right(), pathless()} {
		paths := len(a.l.Sightings) > 2
		for _, n := range of(-1, 6, 7, -2, 12) {
			a.wrong = n
			expect(t, a, paths, api.ErrArg, forOnly)
		}
		for _, x := range extremes {
			a.wrong = int(x)
			expect(t, a, paths, api.ErrArg, forOnly)
		}
		for n := 2; n <= 5; n++ {
			a.wrong = n
			expect(t, a, paths, api.ErrPlan, forOnly)
		}
	}
	for degree := range 4 {
		for wrong := range 6 {
			need := degree + 1 + 2*wrong
			at := make([]int64, 12)
			if need <= 12 {
				if path, e := comet.Only(daily(degree, at[:need]...), wrong); !slices.Equal(path, make([]int64, degree+1)) || e != api.OK {
					t.Error(degree, wrong, path, e)
				}
			}
			if path, e := comet.Only(daily(degree, at[:min(need-1, 12)]...), wrong); len(path) > 0 || e != api.ErrPlan {
				t.Error(degree, wrong, path, e)
			}
		}
	}
}

func checkLeast(t *testing.T, l api.CometLog) {
	t.Helper()
	want := leastOf(l)
	for degree := range 4 { // whatever Degree is
		n, e := comet.Least(by(degree, l))
		if want < 0 && (n != 0 || e != api.ErrComet) || want >= 0 && (n != want || e != api.OK) {
			t.Fatal(l, n, e, "not", want)
		}
	}
}

func TestLeast(t *testing.T) {
	for _, l := range anyLogs(10, 6, 150) {
		checkLeast(t, l)
	}
	for many := range 5 {
		for l := range allLogs(0, longs(0, 1, 3, 4)[:min(many, 4)], 2) {
			checkLeast(t, l)
		}
		for l := range allLogs(0, longs(2, 4, 6, 8, 10)[:many], 1) {
			checkLeast(t, l)
		}
	}
	d := dice(11)
	for range 500 {
		l, _ := d.planted(d.upTo(3), d.upTo(12))
		checkLeast(t, l)
		if many := len(l.Sightings); many > 0 {
			fault := d.upTo(many - 1)
			l.Sightings[fault].At++
			checkLeast(t, l)
		}
	}
	for i, c := range []struct {
		l api.CometLog
		n int
		e api.Errno
	}{
		{log(3), 0, api.OK},
		{log(2, 60, 100000), 0, api.OK},
		{daily(0, 5, 5, 5, 5, 5, 5, 5, 5, 5, 5, 5, 5), 0, api.OK},
		{daily(0, 0, 1), 1, api.OK},
		{daily(0, 0, 1, 3), 2, api.OK},
		{daily(0, 0, 1, 3, 7), 3, api.OK},
		{daily(0, 0, 1, 3, 7, 15), 0, api.ErrComet},
		{daily(0, 0, 1, 3, 7, 14), 3, api.OK},
		{daily(0, 0, 0, 0, 1), 3, api.OK},
		{daily(0, 0, 0, 0, 0, 1), 0, api.ErrComet},
		{daily(0, 5, 4, 3, 2, 1, 0, -1, -2, -3, -4, -5, -6), 1, api.OK},
		{log(0, 0, 0, 2, 1, 4, 4), 0, api.ErrComet}, // on 0, 0, 1, not whole in between
		{log(0, 0, 0, 2, 1, 3, 3), 2, api.OK},       // on 0, 0, 1
		{log(0, 0, 0, 60, 100000), 0, api.ErrComet}, // 60 does not divide it
		{log(0, 0, 0, 50, 100000), 1, api.OK},       // 50 does
		{log(3, 0, 0, 60, 34220, 1, 0), 0, api.ErrRule},
	} {
		if n, e := comet.Least(c.l); n != c.n || e != c.e {
			t.Error(i, n, e)
		}
	}
}
