package border_test

import (
	"math"
	"slices"
	"testing"

	"burin/api"
	"burin/border"
)

// everything calls each function with a sky, and returns the errors in a fixed order.
func everything(t *testing.T, s api.BorderSky, a asked) []api.Errno {
	return append(answers(t, s, a), border.CheckSky(s), border.Once(s))
}

// TestNilAndEmpty checks R3.
func TestNilAndEmpty(t *testing.T) {
	for i, s := range []api.BorderSky{
		sky(3, 2, nil, boxes(1, 1, 0, 1)),
		sky(3, 2, []api.BorderBox{}, boxes(1, 1, 0, 1)),
	} {
		if !slices.Equal(told(s), told(sky(3, 2, nil, boxes(1, 1, 0, 1)))) {
			t.Error(i)
		}
	}
	for i, s := range []api.BorderSky{{Hours: 2, Zones: 1}, {Hours: 2, Zones: 1, Lands: [][]api.BorderBox{}}} {
		for _, tints := range [][]int{nil, {}} {
			if n, e := border.CheckTints(s, tints); n != 0 || e != api.OK {
				t.Error(i, n, e)
			}
		}
		if l, e := border.Tints(s); len(l) > 0 || e != api.OK {
			t.Error(i, l, e)
		}
		if h, z, n, e := border.Fault(s); h != 0 || z != 0 || n != 0 || e != api.OK {
			t.Error(i, h, z, n, e)
		}
		for k, e := range answers(t, s, asked{box: bx(0, 1, 0, 1)}) {
			if want := api.ErrArg; slices.Contains(of(2, 3, 4, 5, 8, 9, 10), k) && e != want { // no constellation is one
				t.Error(i, k, e)
			}
		}
	}
}

// lists returns calls of all functions that return a list of numbers.
func lists(s api.BorderSky, land int) []func() []int {
	return []func() []int{
		func() []int { l, _ := border.Of(s, 0, 0); return l },
		func() []int { l, _ := border.Neighbours(s, land); return l },
		func() []int { l, _ := border.Tints(s); return l },
	}
}

// spoil changes all of a list, and what is behind it in the same memory.
func spoil[T any](list []T, x T) {
	list = list[:cap(list)]
	for i := range list {
		list[i] = x
	}
}

// TestArgumentsStay checks R4: no argument is changed, and a result is new memory.
func TestArgumentsStay(t *testing.T) {
	d := dice(40)
	for _, s := range slices.Concat(skies(41, 200, 5), partedSkies(42, 100, 5)) {
		before, b, tints := copyOf(s), d.box(s), make([]int, len(s.Lands), 20)
		for land := range s.Lands {
			everything(t, s, asked{land: land, tints: tints, box: b})
			for _, call := range lists(s, land) {
				list := call()
				kept := slices.Clone(list)
				spoil(list, -7)
				if again := call(); !slices.Equal(again, kept) {
					t.Fatal("kept:", s, again, kept)
				}
			}
			runs, _ := border.Runs(s, land)
			spoil(runs, bx(-7, -7, -7, -7))
			given, _ := border.Give(s, land, b)
			kept := copyOf(given)
			for i, l := range given.Lands { // what is one's is nobody else's
				spoil(l, bx(-7, -7, -7, -7))
				given.Lands[i] = nil
				for k, other := range given.Lands {
					if k > i && !slices.Equal(other, kept.Lands[k]) {
						t.Fatal("shared:", s, i, k)
					}
				}
			}
			if again, _ := border.Give(s, land, b); !same(again, kept) {
				t.Fatal("kept:", s, again, kept)
			}
		}
		if !same(s, before) || !slices.Equal(tints[:20], make([]int, 20)) {
			t.Fatal("changed:", before, s, tints)
		}
	}
}

// TestAgain checks R9: equal calls return equal results, whatever the order of a map.
func TestAgain(t *testing.T) {
	for _, s := range skies(43, 100, 5) {
		want := told(s)
		for range 5 {
			if l := told(s); !slices.Equal(l, want) {
				t.Fatal(s, l, want)
			}
		}
	}
}

// TestOrder checks that the order of boxes, and how often they are there, makes no difference.
func TestOrder(t *testing.T) {
	for _, s := range skies(44, 200, 5) {
		other := copyOf(s)
		for i, l := range other.Lands {
			slices.Reverse(l)
			other.Lands[i] = slices.Concat(l, l, s.Lands[i])
		}
		if !slices.Equal(told(s), told(other)) {
			t.Fatal(s, other)
		}
	}
}

// TestAnyArguments checks P1: every function ends, and does not panic.
func TestAnyArguments(t *testing.T) {
	numbers := []int{math.MinInt, -1 << 40, -2, -1, 0, 1, 2, 3, 5, 9, 10, 23, 24, 25, 47, 48, 49, 1 << 40, math.MaxInt}
	d := dice(45)
	some := func() int { return numbers[d.upTo(len(numbers)-1)] }
	someBox := func() api.BorderBox { return bx(some(), some(), some(), some()) }
	for range 20000 {
		s := d.sky(4)
		switch d.upTo(5) {
		case 0:
			s.Hours = some()
		case 1:
			s.Zones = some()
		case 2:
			s.Lands = append(s.Lands, []api.BorderBox{someBox()})
		case 3:
			s.Lands = append(s.Lands, []api.BorderBox{d.box(s), someBox(), d.box(s)})
		}
		tints := of(some(), some(), some(), some())
		everything(t, s, asked{some(), some(), some(), some(), tints[:d.upTo(4)], someBox()})
		everything(t, s, asked{d.upTo(7), d.upTo(5), d.upTo(3), d.upTo(3), tints, someBox()})
	}
	many := make([]api.BorderBox, 100000)
	a := asked{tints: make([]int, 100000)}
	everything(t, sky(6, 3, many), a)
	everything(t, sky(6, 3, make([][]api.BorderBox, 100000)...), a)
	everything(t, skyS(), a)
}

// TestLimits asks skies with as much of everything as there can be.
func TestLimits(t *testing.T) {
	all := bx(7, 48, 0, 24)
	full, tints := fullSky(), of(0, 1, 2, 3, 4, 5, 6, 7, 8, 9)
	for i, e := range everything(t, full, asked{47, 23, 9, 0, tints, all}) {
		if e != api.OK && i != 12 || i == 12 && e != api.ErrSky { // Once
			t.Error(i, e)
		}
	}
	if l, e := border.Of(full, 47, 23); !slices.Equal(l, tints) || e != api.OK {
		t.Error(l, e)
	}
	if l, e := border.Tints(full); !slices.Equal(l, tints) || e != api.OK {
		t.Error(l, e)
	}
	if n, e := border.Size(full, 9); n != 48*24 || e != api.OK {
		t.Error(n, e)
	}
	if n, e := border.Border(full, 9, 0); n != 2*(48*24+48*23) || e != api.OK { // all pairs that lie side by side, both ways
		t.Error(n, e)
	}
	if k, e := border.Kind(full, 9, all); k != api.BorderAlways || e != api.OK {
		t.Error(k, e)
	}
	y, e := border.Give(full, 9, all)
	if e != api.OK || border.Once(y) != api.OK || len(y.Lands[9]) != 24 || len(y.Lands[8]) != 0 {
		t.Error(y, e)
	}
}

// TestCheckered asks for as many runs, and pieces, as there can be.
func TestCheckered(t *testing.T) {
	s := checkered()
	for land := range 2 {
		if n, e := border.Pieces(s, land); n != 576 || e != api.OK {
			t.Error(n, e)
		}
		if l, e := border.Runs(s, land); len(l) != 576 || e != api.OK {
			t.Error(len(l), e)
		}
	}
	if n, e := border.Border(s, 0, 1); n != 48*24+48*23 || e != api.OK {
		t.Error(n, e)
	}
	y, e := border.Give(s, 0, bx(47, 1, 23, 24)) // which it has
	if e != api.OK || border.CheckSky(y) != api.OK || len(y.Lands[0]) != 576 || len(y.Lands[1]) != 576 {
		t.Error(e, len(y.Lands[0]), len(y.Lands[1]))
	}
}
