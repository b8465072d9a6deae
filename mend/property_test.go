package mend_test

import (
	"slices"
	"testing"

	"burin/api"
	"burin/mend"
)

// flatFor, lostFor, uponFor, backFor and neutralFor are results of package mend that have no error.
func flatFor(t *testing.T, p api.MendPlate) (api.MendPlate, []int64) {
	t.Helper()
	flat, blows, e := mend.Flatten(p)
	if len(flat) != len(p.Dents) || len(blows) != len(p.Dents) || e != api.OK {
		t.Fatal(p, flat, blows, e)
	}
	return with(p, flat), blows
}
func lostFor(t *testing.T, p api.MendPlate) int64 {
	t.Helper()
	n, e := mend.Lost(p)
	if e != api.OK {
		t.Fatal(p, e)
	}
	return n
}
func uponFor(t *testing.T, p, q api.MendPlate) api.MendPlate {
	t.Helper()
	l, e := mend.Upon(p, q)
	if len(l) != len(p.Dents) || e != api.OK {
		t.Fatal(p, q, l, e)
	}
	return with(p, l)
}
func backFor(t *testing.T, p api.MendPlate) bool {
	t.Helper()
	b, e := mend.Back(p)
	if e != api.OK {
		t.Fatal(p, e)
	}
	return b
}
func neutralFor(t *testing.T, wide, high int) api.MendPlate {
	t.Helper()
	l, e := mend.Neutral(wide, high)
	if len(l) != wide*high || e != api.OK {
		t.Fatal(wide, high, l, e)
	}
	return plate(wide, high, l...)
}

// backing throws a flat plate that comes back: all places are beaten up, and hammered flat again.
func (d *dice) backing(t *testing.T, p api.MendPlate) api.MendPlate {
	t.Helper()
	return uponFor(t, same(p.Wide, p.High, 3), d.dents(p, 30))
}

// leftBy does one blow after another by Blow, as far as its dents are those of a plate, and says what is left, and the blows.
func leftBy(t *testing.T, p api.MendPlate, choose func(places []int) int) ([]int64, []int64) {
	t.Helper()
	blows := make([]int64, len(p.Dents))
	for list := standing(p); len(list) > 0; list = standing(p) {
		i := choose(list)
		if mend.CheckPlate(p) != api.OK { // a dent of more than 30
			p.Dents = struck(p, i, 1)
		} else if l, e := mend.Blow(p, i); e == api.OK {
			p.Dents = l
		} else {
			t.Fatal(p, i, e)
		}
		blows[i]++
	}
	return p.Dents, blows
}

func TestP7_9_Same(t *testing.T) {
	d := dice(30)
	orders := []func(places []int) int{
		last,
		func(places []int) int { return places[0] },
		func(places []int) int { return places[len(places)/2] },
		func(places []int) int { return places[d.upTo(len(places)-1)] },
		func(places []int) int { return places[d.upTo(len(places)-1)] },
	}
	for _, p := range plates(31, 6, 250) {
		flat, blows := flatFor(t, p)
		for i, choose := range orders {
			if a, b := leftBy(t, p, choose); !slices.Equal(a, flat.Dents) || !slices.Equal(b, blows) {
				t.Fatal(p, i, a, b, "not", flat, blows)
			}
		}
	}
}

// checkLeast checks blows that may leave a plate flat, and tells whether they do.
func checkLeast(t *testing.T, p api.MendPlate, least, blows []int64) int {
	t.Helper()
	if mend.CheckBlows(p, blows) != api.OK {
		return 0
	}
	for i, n := range blows {
		if n < least[i] {
			t.Fatal(p, blows, least)
		}
	}
	return 1
}

func TestP7_10_Least(t *testing.T) {
	d := dice(32)
	seen := 0
	for _, p := range plates(33, 6, 1000) {
		_, least := flatFor(t, p)
		if e := mend.CheckBlows(p, least); e != api.OK {
			t.Fatal(p, least, e)
		}
		for range 10 {
			seen += checkLeast(t, p, least, d.blows(least, 1))
		}
		more := p
		for i := range p.Dents { // what leaves a plate flat that stands up more does for this one, too
			more = withDent(more, i, min(30, more.Dents[i]+int64(d.upTo(4))))
		}
		_, blows := flatFor(t, more)
		seen += checkLeast(t, p, least, blows)
		for i := range blows {
			if blows[i] > 0 {
				blows[i]--
				seen += checkLeast(t, p, least, blows)
			}
		}
	}
	if seen < 1000 {
		t.Error("too few:", seen)
	}
}

// TestP7_10_All looks at all plans of small plates with a few blows at each place.
func TestP7_10_All(t *testing.T) {
	d := dice(34)
	seen := 0
	for range 60 {
		for _, p := range []api.MendPlate{d.dents(plate(2, 2), 6), d.dents(plate(3, 1), 9), d.dents(plate(1, 4), 6)} {
			_, least := flatFor(t, p)
			for blows := range allPlates(p.Wide, p.High, 5) {
				seen += checkLeast(t, p, least, blows.Dents)
			}
		}
	}
	if seen < 1000 {
		t.Error("too few:", seen)
	}
}

func TestP7_11_Lost(t *testing.T) {
	for _, p := range plates(35, 6, 2000) {
		_, blows := flatFor(t, p)
		lost := int64(0)
		for i, n := range blows {
			lost += n * int64(4-len(nearby(p, i)))
		}
		if n := lostFor(t, p); n != lost {
			t.Fatal(p, n, "not", lost)
		}
	}
}

func TestP7_12_Upon(t *testing.T) {
	d := dice(36)
	for _, p := range plates(37, 6, 800) {
		q, r := d.dents(p, 30), d.dents(p, d.from(3, 30))
		both := uponFor(t, p, q).Dents
		flatP, _ := flatFor(t, p)
		flatQ, _ := flatFor(t, q)
		for i, l := range []api.MendPlate{uponFor(t, q, p), uponFor(t, flatP, q), uponFor(t, p, flatQ), uponFor(t, flatQ, flatP)} {
			if !slices.Equal(l.Dents, both) {
				t.Fatal(i, p, q, l, both)
			}
		}
		all := uponFor(t, with(p, both), r).Dents
		for i, l := range []api.MendPlate{
			uponFor(t, p, uponFor(t, q, r)), uponFor(t, q, uponFor(t, r, p)), uponFor(t, uponFor(t, p, r), q), uponFor(t, r, uponFor(t, q, p)),
		} {
			if !slices.Equal(l.Dents, all) {
				t.Fatal(i, p, q, r, l, all)
			}
		}
	}
}

func TestP7_13_Back(t *testing.T) {
	for wide, high := range sizes(6) {
		if !backFor(t, same(wide, high, 3)) {
			t.Error(wide, high)
		}
	}
	d := dice(38)
	var seen [3]int // of pairs of plates of which none, one or both come back
	for range 3000 {
		p := d.dents(d.plate(6), d.from(1, 12))
		q := d.dents(p, d.from(1, 4))
		one, _ := flatFor(t, p)
		other, _ := flatFor(t, q)
		back := 0
		for _, flat := range []api.MendPlate{one, other} {
			if backFor(t, flat) {
				back++
			}
		}
		seen[back]++
		if back == 0 {
			continue
		}
		for i, both := range []api.MendPlate{uponFor(t, p, q), uponFor(t, one, other), uponFor(t, other, one)} {
			if !backFor(t, both) {
				t.Fatal(i, p, q, both)
			}
		}
	}
	if slices.Min(seen[:]) < 300 {
		t.Error("too few of a kind:", seen)
	}
}

func TestP7_14_Neutral(t *testing.T) {
	d := dice(40)
	for wide, high := range sizes(6) {
		n := neutralFor(t, wide, high)
		if mend.CheckPlate(n) != api.OK || !backFor(t, n) || !slices.Equal(uponFor(t, n, n).Dents, n.Dents) {
			t.Error(n)
		}
		for range 50 {
			p := d.backing(t, n)
			if !backFor(t, p) || !slices.Equal(uponFor(t, n, p).Dents, p.Dents) || !slices.Equal(uponFor(t, p, n).Dents, p.Dents) {
				t.Fatal(p, n)
			}
		}
	}
	for wide, high := range sizes(4) {
		if wide*high > 6 {
			continue
		}
		n := neutralFor(t, wide, high)
		for _, p := range returning(wide, high) {
			if !slices.Equal(uponFor(t, n, p).Dents, p.Dents) {
				t.Fatal(p, n)
			}
		}
	}
}

// checkTurned checks that all goes with a plate of which each place goes to another one.
func checkTurned(t *testing.T, p api.MendPlate, to func(api.MendPlate, int) int, wide, high int) {
	t.Helper()
	goes := func(q api.MendPlate) api.MendPlate { return plate(wide, high, gone(q, q.Dents, to)...) }
	turned := goes(p)
	flat, blows := flatFor(t, p)
	flatTurned, blowsTurned := flatFor(t, turned)
	if !slices.Equal(goes(flat).Dents, flatTurned.Dents) || !slices.Equal(gone(p, blows, to), blowsTurned) {
		t.Fatal(p, flat, blows, turned, flatTurned, blowsTurned)
	}
	if backFor(t, flat) != backFor(t, flatTurned) || lostFor(t, p) != lostFor(t, turned) {
		t.Fatal(p, turned)
	}
	n, m := neutralFor(t, p.Wide, p.High), neutralFor(t, wide, high)
	if !slices.Equal(goes(n).Dents, m.Dents) {
		t.Fatal(n, m)
	}
}

func TestP7_15_Turned(t *testing.T) {
	d := dice(41)
	for _, p := range plates(42, 6, 1000) {
		if d.upTo(2) > 0 {
			p = d.backing(t, p)
		}
		checkTurned(t, p, mirrored, p.Wide, p.High)
		checkTurned(t, p, upended, p.Wide, p.High)
		checkTurned(t, p, exchanged, p.High, p.Wide)
	}
	for wide, high := range sizes(4) {
		one, e := mend.Count(wide, high)
		other, f := mend.Count(high, wide)
		if one != other || e != api.OK || f != api.OK {
			t.Error(wide, high, one, e, other, f)
		}
	}
}

func TestP7_16_More(t *testing.T) {
	d := dice(43)
	for _, p := range plates(44, 6, 500) {
		_, blows := flatFor(t, p)
		for i, dent := range p.Dents {
			if dent == 30 {
				continue
			}
			more := withDent(p, i, int64(d.from(int(dent)+1, 30)))
			_, behind := flatFor(t, more)
			for k := range blows {
				if behind[k] < blows[k] {
					t.Fatal(p, i, blows, behind)
				}
			}
		}
	}
}

func TestP7_17_Counted(t *testing.T) {
	for i, want := range []int64{4, 15, 56, 209} {
		for _, sides := range [][2]int{{1, i + 1}, {i + 1, 1}} {
			if n, e := mend.Count(sides[0], sides[1]); n != want || e != api.OK {
				t.Error(sides, n, e, "not", want)
			}
		}
	}
	for wide, high := range sizes(4) {
		if wide*high > 8 {
			continue
		}
		n := int64(0)
		for p := range allPlates(wide, high, 3) {
			if backFor(t, p) {
				n++
			}
		}
		if count, e := mend.Count(wide, high); count != n || e != api.OK {
			t.Error(wide, high, count, e, "not", n)
		}
	}
}

// TestP7_17_Part counts by a part of all flat plates that are thrown: of those of the greatest width and height that are
// counted, about 13 of 100 come back.
func TestP7_17_Part(t *testing.T) {
	d := dice(45)
	const all = 100000
	back := 0
	for range all {
		if backFor(t, d.dents(plate(4, 4), 3)) {
			back++
		}
	}
	n, e := mend.Count(4, 4)
	if part, want := float64(back)/all, float64(n)/(1<<32); part < want-0.005 || part > want+0.005 || e != api.OK {
		t.Error(part, want, e)
	}
}
