package border_test

import (
	"slices"
	"testing"

	"burin/api"
	"burin/border"
)

// sizes returns the sizes of all constellations together.
func sizes(s api.BorderSky) int {
	all := 0
	for land := range s.Lands {
		n, _ := border.Size(s, land)
		all += n
	}
	return all
}

func TestP3_8_Once(t *testing.T) {
	d := dice(19)
	less := 0
	for _, s := range slices.Concat(skies(20, 500, 5), partedSkies(21, 300, 6), []api.BorderSky{fullSky(), checkered()}) {
		hour, zone, n, e := border.Fault(s)
		if e == api.ErrNone {
			if border.Once(s) != api.OK || sizes(s) != s.Hours*s.Zones {
				t.Fatal(s)
			}
			continue
		}
		if l, f := border.Of(s, hour, zone); e != api.OK || f != api.OK || len(l) != n || n == 1 || border.Once(s) != api.ErrSky {
			t.Fatal(s, hour, zone, n, e, l, f)
		}
	}
	for range 300 { // places that are in none, and no place in several
		s := d.grown()
		none := 0
		for _, p := range spots(s) {
			if l, _ := border.Of(s, p[0], p[1]); len(l) == 0 {
				none++
			}
		}
		if none > 0 {
			less++
		}
		if sizes(s) != s.Hours*s.Zones-none || (border.Once(s) == api.OK) != (none == 0) {
			t.Fatal(s, none)
		}
	}
	if less < 50 {
		t.Error("too few with places that are in none:", less)
	}
}

// changed returns the sky with all boxes changed.
func changed(s api.BorderSky, to func(api.BorderBox) api.BorderBox) api.BorderSky {
	s = copyOf(s)
	for _, l := range s.Lands {
		for i := range l {
			l[i] = to(l[i])
		}
	}
	return s
}

func TestP3_9_Turned(t *testing.T) {
	for _, s := range slices.Concat(skies(22, 300, 5), partedSkies(23, 150, 5)) {
		want := measures(s)
		for by := range s.Hours {
			later := changed(s, func(b api.BorderBox) api.BorderBox {
				return bx((b.From+by)%s.Hours, b.Wide, b.Low, b.High)
			})
			if l := measures(later); !slices.Equal(l, want) {
				t.Fatal(s, by, l, "not", want)
			}
		}
		back := changed(s, func(b api.BorderBox) api.BorderBox {
			last := (b.From + b.Wide - 1) % s.Hours
			return bx(s.Hours-1-last, b.Wide, b.Low, b.High)
		})
		if l := measures(back); !slices.Equal(l, want) {
			t.Fatal(s, back, l, "not", want)
		}
		down := changed(s, func(b api.BorderBox) api.BorderBox {
			return bx(b.From, b.Wide, s.Zones-b.High, s.Zones-b.Low)
		})
		if l := measures(down); !slices.Equal(l, want) {
			t.Fatal(s, down, l, "not", want)
		}
	}
}

func TestP3_10_Four(t *testing.T) {
	d := dice(24)
	var seen [5]int
	list := []api.BorderSky{sky(3, 2, boxes(0, 1, 0, 1), boxes(1, 1, 0, 1), boxes(2, 1, 0, 1), boxes(0, 3, 1, 2))}
	for range 400 {
		list = append(list, d.grown())
	}
	for _, s := range list {
		for land := range s.Lands {
			if n, e := border.Pieces(s, land); n > 1 || e != api.OK {
				t.Fatal("not a sky for this:", s, land, n, e)
			}
		}
		l, e := border.Tints(s)
		n, f := border.CheckTints(s, l)
		if e != api.OK || f != api.OK || n > 4 {
			t.Fatal(s, l, e, n, f)
		}
		seen[n]++
	}
	if seen[4] < 10 {
		t.Error("too few that need four:", seen)
	}
}

func TestP3_11_Given(t *testing.T) {
	for _, s := range partedSkies(25, 15, 4) {
		before := told(s)
		for land := range s.Lands {
			size, _ := border.Size(s, land)
			for _, b := range allBoxes(s) {
				y, e := border.Give(s, land, b)
				n, f := border.Size(y, land)
				if e != api.OK || f != api.OK || border.Once(y) != api.OK || n < size {
					t.Fatal(s, land, b, y, e, n, f)
				}
				if z, e := border.Give(y, land, b); !same(z, y) || e != api.OK {
					t.Fatal(s, land, b, y, z, e)
				}
				if k, _ := border.Kind(s, land, b); k == api.BorderAlways && !slices.Equal(told(y), before) {
					t.Fatal(s, land, b, y)
				}
			}
		}
	}
}

func TestP3_12_Runs(t *testing.T) {
	for _, s := range slices.Concat(skies(26, 300, 5), partedSkies(27, 150, 5), []api.BorderSky{checkered()}) {
		runs := api.BorderSky{Hours: s.Hours, Zones: s.Zones}
		for land := range s.Lands {
			l, e := border.Runs(s, land)
			if e != api.OK || !lieApart(s.Hours, l) {
				t.Fatal(s, land, l, e)
			}
			runs.Lands = append(runs.Lands, l)
		}
		if s.Hours == 48 { // too many boxes to ask for each of them
			if !slices.Equal(measures(s), measures(runs)) || border.Once(runs) != api.OK {
				t.Error("checkered")
			}
			continue
		}
		if !slices.Equal(told(s), told(runs)) {
			t.Fatal(s, runs)
		}
	}
}

// lieApart reports whether each two boxes are of different zones, or have an hour between them on both sides.
func lieApart(hours int, list []api.BorderBox) bool {
	for i, b := range list {
		for j, c := range list {
			gap := (c.From - b.From - b.Wide + 2*hours) % hours
			if i != j && b.Low == c.Low && (gap < 1 || b.Wide+gap+c.Wide >= hours) {
				return false
			}
		}
	}
	return true
}

// within reports whether all places of a box are of another one.
func within(s api.BorderSky, inner, outer api.BorderBox) bool {
	for _, p := range spots(s) {
		if inBox(s, inner, p[0], p[1]) && !inBox(s, outer, p[0], p[1]) {
			return false
		}
	}
	return true
}

func TestP3_13_Nearer(t *testing.T) {
	d := dice(28)
	pairs := 0
	for _, s := range slices.Concat(skies(29, 300, 4), partedSkies(30, 150, 4)) {
		for range 40 {
			inner, outer := d.box(s), d.box(s)
			if !within(s, inner, outer) {
				continue
			}
			pairs++
			for land := range s.Lands {
				far, _ := border.Kind(s, land, outer)
				near, e := border.Kind(s, land, inner)
				if e != api.OK || far != api.BorderMay && near != far {
					t.Fatal(s, land, inner, near, outer, far)
				}
			}
		}
	}
	if pairs < 1000 {
		t.Error("too few pairs:", pairs)
	}
}

func TestP3_13_Once(t *testing.T) {
	for _, s := range partedSkies(31, 100, 4) {
		for _, b := range allBoxes(s) {
			var kinds [3]int
			for land := range s.Lands {
				k, _ := border.Kind(s, land, b)
				kinds[k]++
			}
			one := kinds[api.BorderAlways] == 1 && kinds[api.BorderMay] == 0
			two := kinds[api.BorderAlways] == 0 && kinds[api.BorderMay] >= 2
			if !one && !two {
				t.Fatal(s, b, kinds)
			}
		}
	}
}

func TestP3_14_Round(t *testing.T) {
	for _, s := range slices.Concat(skies(32, 500, 6), partedSkies(33, 200, 6), []api.BorderSky{checkered()}) {
		for one := range s.Lands {
			near, _ := border.Neighbours(s, one)
			size, _ := border.Size(s, one)
			for two := range s.Lands {
				n, _ := border.Border(s, one, two)
				m, _ := border.Border(s, two, one)
				if n != m || n > 4*size {
					t.Fatal(s, one, two, n, m, size)
				}
				back, _ := border.Neighbours(s, two)
				if slices.Contains(near, two) != slices.Contains(back, one) || n > 0 && !slices.Contains(near, two) {
					t.Fatal(s, one, two, near, back)
				}
			}
		}
	}
}

func TestP3_15_Joined(t *testing.T) {
	d := dice(34)
	list := partedSkies(35, 200, 6)
	for range 200 {
		list = append(list, d.grown())
	}
	for _, s := range list {
		if len(s.Lands) < 2 {
			continue
		}
		one, two := d.upTo(len(s.Lands)-1), d.upTo(len(s.Lands)-1)
		if one == two {
			continue
		}
		joined := copyOf(s)
		joined.Lands[one] = slices.Concat(s.Lands[one], s.Lands[two])
		joined.Lands[two] = nil
		a, _ := border.Size(s, one)
		b, _ := border.Size(s, two)
		if n, e := border.Size(joined, one); n != a+b || e != api.OK {
			t.Fatal(s, one, two, n, e, "not", a, b)
		}
		for third := range s.Lands {
			if third == one || third == two {
				continue
			}
			a, _ := border.Border(s, one, third)
			b, _ := border.Border(s, two, third)
			if n, e := border.Border(joined, one, third); n != a+b || e != api.OK {
				t.Fatal(s, one, two, third, n, e, "not", a, b)
			}
		}
	}
}
