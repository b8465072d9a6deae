package border_test

import (
	"slices"
	"testing"

	"burin/api"
	"burin/border"
)

// TestExamples is the chapter's table, line by line; the rest of it is in exampleNumbers.
func TestExamples(t *testing.T) {
	at := func(s api.BorderSky, hour, zone int, want []int, errno api.Errno) {
		if l, e := border.Of(s, hour, zone); !slices.Equal(l, want) || e != errno {
			t.Error("Of", hour, zone, l, e)
		}
	}
	at(skyS(), 1, 1, of(0), api.OK)
	at(skyS(), 6, 0, nil, api.ErrRange)
	at(skyT(), 2, 0, of(0, 1), api.OK)

	if e := border.Once(skyS()); e != api.OK {
		t.Error("Once", e)
	}
	fault := func(s api.BorderSky, hour, zone, n int, errno api.Errno) {
		if h, z, m, e := border.Fault(s); h != hour || z != zone || m != n || e != errno {
			t.Error("Fault", h, z, m, e)
		}
	}
	fault(skyG(), 0, 2, 0, api.OK)
	fault(skyT(), 2, 0, 2, api.OK)
	fault(skyS(), 0, 0, 0, api.ErrNone)

	for land, want := range of(4, 6, 8) {
		if n, e := border.Size(skyS(), land); n != want || e != api.OK {
			t.Error("Size", land, n, e)
		}
	}
	if n, e := border.Pieces(skyG(), 2); n != 1 || e != api.OK {
		t.Error("Pieces", n, e)
	}
	if l, e := border.Neighbours(skyS(), 0); !slices.Equal(l, of(1, 2)) || e != api.OK {
		t.Error("Neighbours", l, e)
	}
	exampleNumbers(t)

	if l, e := border.Tints(skyS()); !slices.Equal(l, of(0, 1, 2)) || e != api.OK {
		t.Error("Tints", l, e)
	}
	if l, e := border.Runs(skyS(), 2); !slices.Equal(l, boxes(4, 2, 1, 2, 0, 6, 2, 3)) || e != api.OK {
		t.Error("Runs", l, e)
	}
	y, e := border.Give(skyS(), 0, bx(5, 1, 0, 3))
	if e != api.OK {
		t.Error("Give", e)
	}
	for land, want := range map[int][]api.BorderBox{
		0: boxes(5, 3, 0, 1, 5, 3, 1, 2, 5, 1, 2, 3),
		2: boxes(4, 1, 1, 2, 0, 5, 2, 3),
	} {
		if l, e := border.Runs(y, land); !slices.Equal(l, want) || !slices.Equal(y.Lands[land], want) || e != api.OK {
			t.Error("Runs", land, l, e, y)
		}
	}
}

// exampleNumbers is the part of the table in which numbers are returned for numbers.
func exampleNumbers(t *testing.T) {
	long := func(one, two, want int, errno api.Errno) {
		if n, e := border.Border(skyS(), one, two); n != want || e != errno {
			t.Error("Border", one, two, n, e)
		}
	}
	long(0, 1, 3, api.OK)
	long(0, 2, 3, api.OK)
	long(1, 2, 5, api.OK)
	long(1, 1, 0, api.ErrEqual)

	check := func(tints []int, want int, errno api.Errno) {
		if n, e := border.CheckTints(skyS(), tints); n != want || e != errno {
			t.Error("CheckTints", tints, n, e)
		}
	}
	check(of(0, 1, 2), 3, api.OK)
	check(of(2, 0, 0), 0, api.ErrSky)
	check(of(0, 1), 0, api.ErrEqual)

	kind := func(land int, b api.BorderBox, want int, errno api.Errno) {
		if k, e := border.Kind(skyS(), land, b); k != want || e != errno {
			t.Error("Kind", land, b, k, e)
		}
	}
	kind(0, bx(0, 2, 0, 2), 2, api.OK)
	kind(0, bx(5, 2, 1, 2), 1, api.OK)
	kind(1, bx(5, 2, 1, 2), 0, api.OK)
	kind(0, bx(6, 1, 0, 1), 0, api.ErrRange)
}
