package mend_test

import (
	"slices"
	"testing"

	"burin/api"
	"burin/mend"
)

// TestExamples is the chapter's table, line by line.
func TestExamples(t *testing.T) {
	t.Run("Blow", exampleBlow)
	t.Run("Flatten, Lost", exampleFlat)
	t.Run("CheckBlows", exampleBlows)
	t.Run("Burn, Back", exampleFire)
	t.Run("Neutral, Upon", exampleNeutral)
	t.Run("Count", exampleCount)
}

func exampleBlow(t *testing.T) {
	check := func(place int, errno api.Errno, want ...int64) {
		if l, e := mend.Blow(plateP(), place); !slices.Equal(l, want) || e != errno {
			t.Error(place, l, e)
		}
	}
	check(0, api.OK, 1, 4, 3, 3)
	check(1, api.ErrState)
	check(4, api.ErrArg)
}

func exampleFlat(t *testing.T) {
	check := func(p api.MendPlate, flat, blows []int64, lost int64) {
		if a, b, e := mend.Flatten(p); !slices.Equal(a, flat) || !slices.Equal(b, blows) || e != api.OK {
			t.Error(p, a, b, e)
		}
		if n, e := mend.Lost(p); n != lost || e != api.OK {
			t.Error(p, n, e)
		}
	}
	check(plateP(), longs(3, 1, 0, 1), longs(1, 1, 1, 1), 8)
	check(plateQ(), longs(0, 1, 1, 0), longs(1, 0, 0, 0), 2)
}

func exampleBlows(t *testing.T) {
	check := func(want api.Errno, blows ...int64) {
		if e := mend.CheckBlows(plateP(), blows); e != want {
			t.Error(blows, e)
		}
	}
	check(api.OK, 1, 1, 1, 1)
	check(api.OK, 2, 1, 1, 1)
	check(api.ErrMend, 1, 1, 1, 0)
	check(api.ErrMend, 0, 1, 1, 1)
	check(api.ErrEqual, 1, 1, 1)
}

func exampleFire(t *testing.T) {
	one, other := plate(2, 2, 3, 1, 0, 1), plate(2, 2, 0, 1, 1, 0)
	check := func(p api.MendPlate, errno api.Errno, want ...int) {
		if l, e := mend.Burn(p); !slices.Equal(l, want) || e != errno {
			t.Error(p, l, e)
		}
	}
	check(one, api.OK, 0, 1, 3, 2)
	check(other, api.OK)
	check(plateP(), api.ErrState)
	if b, e := mend.Back(one); !b || e != api.OK {
		t.Error(b, e)
	}
	if b, e := mend.Back(other); b || e != api.OK {
		t.Error(b, e)
	}
}

func exampleNeutral(t *testing.T) {
	check := func(wide, high int, errno api.Errno, want ...int64) {
		if l, e := mend.Neutral(wide, high); !slices.Equal(l, want) || e != errno {
			t.Error(wide, high, l, e)
		}
	}
	check(2, 2, api.OK, 2, 2, 2, 2)
	check(1, 1, api.OK, 0)
	check(7, 1, api.ErrRange)
	if l, e := mend.Upon(plate(2, 2, 3, 1, 0, 1), same(2, 2, 2)); !slices.Equal(l, longs(3, 1, 0, 1)) || e != api.OK {
		t.Error(l, e)
	}
}

func exampleCount(t *testing.T) {
	check := func(wide, high int, errno api.Errno, want int64) {
		if n, e := mend.Count(wide, high); n != want || e != errno {
			t.Error(wide, high, n, e)
		}
	}
	check(1, 1, api.OK, 4)
	check(2, 1, api.OK, 15)
	check(2, 2, api.OK, 192)
	check(5, 1, api.ErrRange, 0)
}

// TestG7 is example 7 of the document.
func TestG7(t *testing.T) {
	flat, blows, e := mend.Flatten(plate(2, 2, 5, 3, 2, 3))
	if !slices.Equal(flat, longs(3, 1, 0, 1)) || !slices.Equal(blows, longs(1, 1, 1, 1)) || e != api.OK {
		t.Error(flat, blows, e)
	}
}
