package comet_test

import (
	"iter"
	"math"
	"math/big"
	"slices"

	"burin/api"
)

// extremes are numbers of which no one is a day, a place, a sighting, a degree, or a number of a path.
var extremes = []int64{math.MinInt64, math.MinInt64 + 1, -1 << 62, -1<<40 - 1, 1<<40 + 1, 1 << 62, math.MaxInt64 - 1, math.MaxInt64}

// of is a list, longs one of int64, log a log: two numbers for each sighting.
func of(x ...int) []int        { return x }
func longs(x ...int64) []int64 { return x }
func log(degree int, x ...int64) api.CometLog {
	l := api.CometLog{Degree: degree}
	for i := 0; i < len(x); i += 2 {
		l = with(l, x[i], x[i+1])
	}
	return l
}

// logL, logM and logQ are the logs L, M and Q of the chapter's examples.
func logL() api.CometLog { return log(1, 0, 1, 1, 3, 2, 5, 3, 8, 5, 11) }
func logM() api.CometLog { return log(1, 0, 0, 2, 1) }
func logQ() api.CometLog { return log(2, 0, 1, 1, 2, 2, 4, 3, 7, 4, 12) }

// with is a log with one more sighting, at the end, begun its first ones, by the same log with another degree.
func with(l api.CometLog, day, at int64) api.CometLog {
	l.Sightings = append(slices.Clone(l.Sightings), api.CometSighting{Day: day, At: at})
	return l
}
func begun(l api.CometLog, sightings int) api.CometLog {
	l.Sightings = slices.Clone(l.Sightings[:sightings])
	return l
}
func by(degree int, l api.CometLog) api.CometLog {
	l.Degree = degree
	return l
}

// changed is a log in which each sighting is another one.
func changed(l api.CometLog, change func(i int, s api.CometSighting) api.CometSighting) api.CometLog {
	l.Sightings = slices.Clone(l.Sightings)
	for i, s := range l.Sightings {
		l.Sightings[i] = change(i, s)
	}
	return l
}

// daily is a log of which a place was seen on each day, from 0 on.
func daily(degree int, at ...int64) api.CometLog {
	l := log(degree)
	for day, x := range at {
		l = with(l, int64(day), x)
	}
	return l
}

// dice is a generator of numbers that are the same in each run.
type dice uint64

func (d *dice) upTo(n int) int {
	*d = *d*6364136223846793005 + 1442695040888963407
	return int(uint64(*d)>>33) % (n + 1)
}

func (d *dice) from(a, b int) int { return a + d.upTo(b-a) }

// long throws a number from -n to n, of 64 bits.
func (d *dice) long(n int64) int64 {
	x := uint64(d.upTo(1<<31-1))<<32 | uint64(d.upTo(1<<31-1))
	return int64(x%uint64(2*n+1)) - n
}

// days throws a strictly increasing list of days up to the last one.
func (d *dice) days(many, last int) []int64 {
	var out []int64
	for len(out) < many {
		if day := int64(d.upTo(last)); !slices.Contains(out, day) {
			out = append(out, day)
		}
	}
	slices.Sort(out)
	return out
}

// path throws a path of which the places up to the day 60 are no more than MaxCometAt.
func (d *dice) path(degree int) []int64 {
	most := longs(10000, 400, 15, 1)
	var path []int64
	for _, n := range most[:degree+1] {
		path = append(path, d.long(n))
	}
	return path
}

// anyLog throws a log in which sightings lie on some paths, or on none.
func (d *dice) anyLog(degree, most int) api.CometLog {
	l := log(degree)
	last := []int{most, 2 * most, 60}[d.upTo(2)]
	var paths [][]int64
	for range d.from(1, 3) {
		paths = append(paths, d.path(d.upTo(degree)))
	}
	few := d.upTo(1) == 0 // places are few, so that many paths go through them
	for _, day := range d.days(d.upTo(most), last) {
		at := placeOf(paths[d.upTo(len(paths)-1)], day)
		if d.upTo(3) == 0 {
			at += int64(d.from(-2, 2))
		}
		if few {
			at = int64(d.upTo(2))
		}
		l = with(l, day, at)
	}
	return l
}

// planted throws a log of which all sightings lie on a path of its degree, which it returns, too.
func (d *dice) planted(degree, sightings int) (api.CometLog, []int64) {
	l, path := log(degree), d.path(degree)
	for _, day := range d.days(sightings, []int{11, 60}[d.upTo(1)]) {
		l = with(l, day, placeOf(path, day))
	}
	return l, path
}

// anyLogs throws a number of logs of each degree, and adds those of the examples, and a few others.
func anyLogs(seed dice, most, n int) []api.CometLog {
	out := []api.CometLog{logL(), logM(), logQ()}
	for degree := range 4 {
		out = append(out, log(degree), by(degree, logL()), by(degree, logQ()), by(degree, logM()))
		for range n {
			out = append(out, seed.anyLog(degree, most))
		}
	}
	return out
}

// allLogs yields all logs with sightings on given days, at places from -most to most.
func allLogs(degree int, days []int64, most int) iter.Seq[api.CometLog] {
	return func(yield func(api.CometLog) bool) {
		for list := range lists(len(days), -most, most) {
			l := log(degree)
			for i, day := range days {
				l = with(l, day, int64(list[i]))
			}
			if !yield(l) {
				return
			}
		}
	}
}

// lists yields all lists of so many numbers from least to greatest.
func lists(long, least, greatest int) iter.Seq[[]int] {
	return func(yield func([]int) bool) {
		list := slices.Repeat(of(least), long)
		for {
			if !yield(slices.Clone(list)) {
				return
			}
			i := 0
			for i < long && list[i] == greatest {
				list[i] = least
				i++
			}
			if i == long {
				return
			}
			list[i]++
		}
	}
}

// choose and all that follows are the chapter's definitions.
// They are there to check what package comet finds.

// choose returns how many ways there are to choose so many of some things: with the last of them, or without it.
func choose(things int64, many int) int64 {
	row := longs(1, 0, 0, 0)
	for range things {
		for k := 3; k > 0; k-- {
			row[k] += row[k-1]
		}
	}
	return row[many]
}

// placeOf returns the place of a path on a day.
func placeOf(path []int64, day int64) int64 {
	at := int64(0)
	for k, n := range path {
		at += n * choose(day, k)
	}
	return at
}

// onOf returns the sightings that lie on a path.
func onOf(l api.CometLog, path []int64) []int {
	var on []int
	for i, s := range l.Sightings {
		if placeOf(path, s.Day) == s.At {
			on = append(on, i)
		}
	}
	return on
}

// throughOf returns the numbers with which all of some sightings lie on a path of a degree that is one less than how many they
// are, and whether they are whole, and as described: one equation for each sighting.
func throughOf(sightings []api.CometSighting) ([]int64, bool) {
	var rows [][]*big.Rat
	for _, s := range sightings {
		var row []*big.Rat
		for k := range sightings {
			row = append(row, big.NewRat(choose(s.Day, k), 1))
		}
		rows = append(rows, append(row, big.NewRat(s.At, 1)))
	}
	solve(rows)
	var path []int64
	for _, row := range rows {
		n := row[len(rows)]
		if !n.IsInt() || !n.Num().IsInt64() || n.Num().Int64() < -1<<40 || n.Num().Int64() > 1<<40 {
			return nil, false
		}
		path = append(path, n.Num().Int64())
	}
	return path, true
}

// solve changes equations until each tells one number.
func solve(rows [][]*big.Rat) {
	for k := range rows {
		with := slices.IndexFunc(rows[k:], func(row []*big.Rat) bool { return row[k].Sign() != 0 }) + k
		rows[k], rows[with] = rows[with], rows[k]
		by := new(big.Rat).Inv(rows[k][k])
		for _, n := range rows[k] {
			n.Mul(n, by)
		}
		for i, row := range rows {
			if i == k {
				continue
			}
			times := new(big.Rat).Set(row[k])
			for j, n := range row {
				n.Sub(n, new(big.Rat).Mul(times, rows[k][j]))
			}
		}
	}
}

// setsOf returns all strictly increasing lists of so many sightings.
func setsOf(sightings, many int) [][]int {
	if many == 0 {
		return [][]int{{}}
	}
	var out [][]int
	for last := many - 1; last < sightings; last++ {
		for _, list := range setsOf(last, many-1) {
			out = append(out, append(slices.Clone(list), last))
		}
	}
	return out
}

// some returns the sightings that a list names.
func some(l api.CometLog, list []int) []api.CometSighting {
	var out []api.CometSighting
	for _, i := range list {
		out = append(out, l.Sightings[i])
	}
	return out
}

// pathsOf returns all paths of a log, each once, in lexicographic order.
func pathsOf(l api.CometLog) [][]int64 {
	var out [][]int64
	for _, list := range setsOf(len(l.Sightings), l.Degree+1) {
		if path, whole := throughOf(some(l, list)); whole {
			out = append(out, path)
		}
	}
	slices.SortFunc(out, slices.Compare)
	return slices.CompactFunc(out, slices.Equal)
}

// bestOf returns those of the paths of a log on which the most sightings lie, and how many that are.
func bestOf(l api.CometLog, paths [][]int64) ([][]int64, int) {
	most := 0
	for _, path := range paths {
		most = max(most, len(onOf(l, path)))
	}
	return slices.DeleteFunc(slices.Clone(paths), func(path []int64) bool { return len(onOf(l, path)) < most }), most
}

// kindOf returns whether a sighting is wrong for best paths.
func kindOf(l api.CometLog, best [][]int64, sighting int) int {
	wrong := 0
	for _, path := range best {
		if !slices.Contains(onOf(l, path), sighting) {
			wrong++
		}
	}
	switch wrong {
	case 0:
		return api.CometNever
	case len(best):
		return api.CometAlways
	}
	return api.CometMay
}

// leastOf returns the least degree of a path on which all sightings lie, or -1 if there is none.
func leastOf(l api.CometLog) int {
	if len(l.Sightings) == 0 {
		return 0
	}
	for degree := range min(len(l.Sightings), 4) {
		if path, whole := throughOf(l.Sightings[:degree+1]); whole && len(onOf(l, path)) == len(l.Sightings) {
			return degree
		}
	}
	return -1
}
