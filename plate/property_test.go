package plate_test

import (
	"slices"
	"testing"

	"burin/api"
	"burin/plate"
)

// moved, heightsFor, reachedFor and countFor are results of package plate that have no error.
func moved(t *testing.T, p api.PlateSquare, motion int) api.PlateSquare {
	t.Helper()
	q, e := plate.Move(p, motion)
	if e != api.OK {
		t.Fatal(p, motion, e)
	}
	return q
}
func heightsFor(t *testing.T, kinds []int) []int {
	t.Helper()
	l, e := plate.Heights(kinds)
	if e != api.OK {
		t.Fatal(kinds, e)
	}
	return l
}
func reachedFor(t *testing.T, kinds []int) []int {
	t.Helper()
	l, e := plate.Reached(kinds)
	if e != api.OK {
		t.Fatal(kinds, e)
	}
	return l
}
func countFor(t *testing.T, size, classes int, kinds []int) int64 {
	t.Helper()
	n, e := plate.Count(size, classes, kinds)
	if e != api.OK {
		t.Fatal(size, classes, kinds, e)
	}
	return n
}

func TestP4_7_Proved(t *testing.T) {
	for _, kinds := range allKinds() {
		heights := heightsFor(t, kinds)
		if e := plate.CheckHeights(kinds, heights); e != api.OK {
			t.Fatal(kinds, heights, e)
		}
		reached := reachedFor(t, kinds)
		for m, height := range heights {
			l, e := plate.Plan(kinds, m)
			if (e == api.OK) != slices.Contains(reached, m) || e == api.OK && len(l) != height || e != api.OK && height != 20 {
				t.Fatal(kinds, m, l, e, height, reached)
			}
			if made, f := plate.CheckPlan(kinds, l); e == api.OK && (made != m || f != api.OK) {
				t.Fatal(kinds, m, l, made, f)
			}
		}
	}
}

// thrownHeights throws numbers, and takes them down until they are heights for kinds.
func thrownHeights(d *dice, kinds []int, table [8][8]int) []int {
	heights := make([]int, 8)
	for i := 1; i < 8; i++ {
		heights[i] = d.upTo(6)
	}
	for !areHeights(kinds, heights, table) {
		for m := range 8 {
			for _, kind := range kinds {
				heights[table[m][kind]] = min(heights[table[m][kind]], heights[m]+1)
			}
		}
	}
	return heights
}

func TestP4_7_WhateverHeights(t *testing.T) {
	table := afters()
	d := dice(20)
	for range 5000 {
		kinds := kindsOf(d.from(1, 255))
		heights := thrownHeights(&d, kinds, table)
		if e := plate.CheckHeights(kinds, heights); e != api.OK {
			t.Fatal(kinds, heights, e)
		}
		list := make([]int, d.upTo(20))
		for i := range list {
			list[i] = kinds[d.upTo(len(kinds)-1)]
		}
		for long := range len(list) + 1 {
			if m, e := plate.CheckPlan(kinds, list[:long]); e != api.OK || long < heights[m] {
				t.Fatal(kinds, heights, list[:long], m, e)
			}
		}
	}
}

func TestP4_8_Motions(t *testing.T) {
	for one := range 8 {
		back, _ := plate.Inverse(one)
		if m, e := plate.After(back, one); m != 0 || e != api.OK {
			t.Error(one, back, m, e)
		}
		if m, e := plate.After(one, back); m != 0 || e != api.OK {
			t.Error(one, back, m, e)
		}
		for other := range 8 {
			both, e := plate.After(one, other)
			if e != api.OK {
				t.Error(one, other, e)
			}
			for _, p := range append(plates(21, 60, 8), full(), lopsided()) {
				if q := moved(t, moved(t, p, one), other); !same(q, moved(t, p, both)) {
					t.Fatal(p, one, other, q, both)
				}
			}
		}
	}
}

func TestP4_9_Forms(t *testing.T) {
	d := dice(22)
	var seen [2]int
	for _, p := range plates(23, 1500, 4) {
		kinds := d.kinds()
		q := d.plate(p.Size)
		if d.upTo(2) > 0 {
			q = moved(t, p, d.upTo(7))
		}
		a, by, e := plate.Least(p, kinds)
		b, _, f := plate.Least(q, kinds)
		m, g := plate.Alike(p, q, kinds)
		if e != api.OK || f != api.OK || same(a, b) != (g == api.OK) || !same(moved(t, p, by), a) {
			t.Fatal(p, q, kinds, a, by, e, b, f, g)
		}
		if g == api.OK {
			seen[0]++
			if !same(moved(t, p, m), q) {
				t.Fatal(p, q, kinds, m)
			}
		} else {
			seen[1]++
		}
		if c, by, e := plate.Least(a, kinds); !same(c, a) || by != 0 || e != api.OK {
			t.Fatal(p, kinds, a, c, by, e)
		}
	}
	if min(seen[0], seen[1]) < 300 {
		t.Error("too few of a kind:", seen)
	}
}

func TestP4_10_Shared(t *testing.T) {
	for _, p := range slices.Concat(plates(24, 100, 6), allPlates(2, 2), []api.PlateSquare{full(), lopsided(), plain(8, 1)}) {
		under, e := plate.Stays(p)
		if e != api.OK {
			t.Fatal(p, e)
		}
		for _, kinds := range allKinds() {
			reached := reachedFor(t, kinds)
			var different []api.PlateSquare
			leave := 0
			for _, m := range reached {
				q := moved(t, p, m)
				if !slices.ContainsFunc(different, func(x api.PlateSquare) bool { return same(x, q) }) {
					different = append(different, q)
				}
				if slices.Contains(under, m) {
					leave++
				}
			}
			if len(reached) != len(different)*leave {
				t.Fatal(p, kinds, reached, different, leave)
			}
		}
	}
}

func TestP4_11_Counted(t *testing.T) {
	for size := 1; size <= 5; size++ {
		for classes := 1; classes <= 4; classes++ {
			for _, kinds := range allKinds() {
				reached := reachedFor(t, kinds)
				sum := int64(0)
				for _, m := range reached {
					n, e := plate.Circles(size, m)
					if e != api.OK {
						t.Fatal(size, m, e)
					}
					ways := int64(1)
					for range n {
						ways *= int64(classes)
					}
					sum += ways
				}
				if n := countFor(t, size, classes, kinds); n*int64(len(reached)) != sum {
					t.Fatal(size, classes, kinds, n, reached, sum)
				}
			}
		}
	}
}

func TestP4_12_Kept(t *testing.T) {
	for _, p := range append(plates(25, 500, 8), full(), lopsided()) {
		sorted := slices.Sorted(slices.Values(p.Dots))
		for m := range 8 {
			if q := moved(t, p, m); !slices.Equal(slices.Sorted(slices.Values(q.Dots)), sorted) {
				t.Fatal(p, m, q)
			}
		}
	}
}

func TestP4_12_Rows(t *testing.T) {
	d := dice(26)
	for _, p := range append(plates(27, 500, 8), full(), lopsided()) {
		for r := range p.Size { // some rows are made to read alike from both ends, often all of them
			row := p.Dots[r*p.Size : (r+1)*p.Size]
			for c := range row {
				if d.upTo(9) > 0 {
					row[c] = row[p.Size-1-c]
				}
			}
		}
		q := moved(t, p, 4)
		all := true
		for r := range p.Size {
			row, behind := p.Dots[r*p.Size:(r+1)*p.Size], q.Dots[r*p.Size:(r+1)*p.Size]
			back := slices.Clone(row)
			slices.Reverse(back)
			alike := slices.Equal(row, back)
			all = all && alike
			if alike != slices.Equal(row, behind) {
				t.Fatal(p, r, q)
			}
		}
		if l, e := plate.Stays(p); slices.Contains(l, 4) != all || e != api.OK {
			t.Fatal(p, l, e, all)
		}
	}
}

func TestP4_13_More(t *testing.T) {
	for mask := range 256 {
		for one := range 8 {
			few, more := kindsOf(mask), kindsOf(mask|1<<one)
			with := reachedFor(t, more)
			for _, m := range reachedFor(t, few) {
				a, _ := plate.Plan(few, m)
				b, e := plate.Plan(more, m)
				if !slices.Contains(with, m) || e != api.OK || len(b) > len(a) {
					t.Fatal(few, more, m, a, b, e)
				}
			}
			for m, height := range heightsFor(t, few) {
				if heightsFor(t, more)[m] > height {
					t.Fatal(few, more, m)
				}
			}
			for size := 1; size <= 5; size++ {
				if a, b := countFor(t, size, 4, few), countFor(t, size, 4, more); b > a {
					t.Fatal(few, more, size, a, b)
				}
			}
		}
	}
}
