package mend_test

import (
	"math"
	"slices"
	"testing"

	"burin/api"
	"burin/mend"
)

// asked is what functions are asked.
type asked struct {
	p, q       api.MendPlate
	place      int
	blows      []int64
	wide, high int
}

// right is something that no function has an error for but Burn and Back, as the plate is not flat.
func right() asked {
	return asked{plateP(), same(2, 2, 2), 0, longs(1, 1, 1, 1), 2, 2}
}

// rightFlat is something that no function has an error for but Blow, as no place of the plate stands up.
func rightFlat() asked {
	a := right()
	a.p = plate(2, 2, 3, 1, 0, 1)
	return a
}

// The indexes of the errors that answers returns.
const (
	forCheckPlate = iota
	forBlow
	forFlatten
	forCheckBlows
	forLost
	forUpon
	forBurn
	forBack
	forNeutral
	forCount
	functions
)

// withPlate are the functions with a plate.
const withPlate = forNeutral

// usual is the error that a function has for what is right, if the plate is flat, or is not.
func usual(function int, flat bool) api.Errno {
	if !flat && (function == forBurn || function == forBack) || flat && function == forBlow {
		return api.ErrState
	}
	return api.OK
}

// answers calls each function, and returns the errors. It reports other results that are not zero, together with an error.
func answers(t *testing.T, a asked) [functions]api.Errno {
	t.Helper()
	var e [functions]api.Errno
	var zero [functions]bool
	e[forCheckPlate], zero[forCheckPlate] = mend.CheckPlate(a.p), true
	list, err := mend.Blow(a.p, a.place)
	e[forBlow], zero[forBlow] = err, len(list) == 0
	list, blows, err := mend.Flatten(a.p)
	e[forFlatten], zero[forFlatten] = err, len(list) == 0 && len(blows) == 0
	e[forCheckBlows], zero[forCheckBlows] = mend.CheckBlows(a.p, a.blows), true
	n, err := mend.Lost(a.p)
	e[forLost], zero[forLost] = err, n == 0
	list, err = mend.Upon(a.p, a.q)
	e[forUpon], zero[forUpon] = err, len(list) == 0
	places, err := mend.Burn(a.p)
	e[forBurn], zero[forBurn] = err, len(places) == 0
	back, err := mend.Back(a.p)
	e[forBack], zero[forBack] = err, !back
	list, err = mend.Neutral(a.wide, a.high)
	e[forNeutral], zero[forNeutral] = err, len(list) == 0
	n, err = mend.Count(a.wide, a.high)
	e[forCount], zero[forCount] = err, n == 0
	for i := range e {
		if e[i] != api.OK && !zero[i] {
			t.Error("a result with an error:", i, e[i], a)
		}
	}
	return e
}

// expect checks that functions return an error, and all others the errors of what is right.
func expect(t *testing.T, a asked, errno api.Errno, which ...int) {
	t.Helper()
	for i, e := range answers(t, a) {
		want := usual(i, isFlat(a.p))
		if slices.Contains(which, i) {
			want = errno
		}
		if e != want {
			t.Error("function", i, e, "not", want, a)
		}
	}
}

func TestRight(t *testing.T) {
	expect(t, right(), api.OK)
	expect(t, rightFlat(), api.OK)
}

// wrong is a plate that is not valid, with its error.
type wrong struct {
	why string
	p   api.MendPlate
	e   api.Errno
}

func wrongPlates() []wrong {
	return []wrong{
		{"zero", api.MendPlate{}, api.ErrRange},
		{"no columns", plate(0, 1), api.ErrRange},
		{"no columns, a dent", plate(0, 1, 0), api.ErrRange},
		{"no rows", plate(1, 0), api.ErrRange},
		{"no rows, a dent", plate(1, 0, 0), api.ErrRange},
		{"columns below 0", plate(-1, 1, 0), api.ErrRange},
		{"rows below 0", plate(1, -1, 0), api.ErrRange},
		{"both below 0", plate(-2, -2, 5, 3, 2, 3), api.ErrRange},
		{"7 columns", same(7, 1, 3), api.ErrRange},
		{"7 rows", same(1, 7, 3), api.ErrRange},
		{"7 both", same(7, 7, 3), api.ErrRange},
		{"7 columns, too few dents", plate(7, 1, 3, 3), api.ErrRange},
		{"7 rows, a dent below 0", same(1, 7, -1), api.ErrRange},
		{"7 columns, 31", same(7, 2, 31), api.ErrRange},
		{"4 times 9", same(4, 9, 3), api.ErrRange},
		{"no dents", plate(1, 1), api.ErrEqual},
		{"no dents of 36", plate(6, 6), api.ErrEqual},
		{"a dent too few", plate(2, 2, 5, 3, 2), api.ErrEqual},
		{"a dent too many", plate(2, 2, 5, 3, 2, 3, 0), api.ErrEqual},
		{"Wide and High dents", plate(2, 3, 1, 1, 1, 1, 1), api.ErrEqual},
		{"35 dents", plate(6, 6, slices.Repeat(longs(30), 35)...), api.ErrEqual},
		{"37 dents", plate(6, 6, slices.Repeat(longs(30), 37)...), api.ErrEqual},
		{"too few, below 0", plate(2, 2, -1, -1, -1), api.ErrEqual},
		{"too many, 31", plate(2, 1, 31, 31, 31), api.ErrEqual},
		{"a dent below 0", plate(1, 1, -1), api.ErrArg},
		{"a dent of 31", plate(1, 1, 31), api.ErrArg},
		{"the first dent", plate(2, 2, -1, 0, 0, 0), api.ErrArg},
		{"the last dent", plate(2, 2, 0, 0, 0, -1), api.ErrArg},
		{"a dent in between", plate(2, 2, 5, 31, 2, 3), api.ErrArg},
		{"the last dent of 36", withDent(full(), 35, 31), api.ErrArg},
		{"below 0, flat", plate(3, 1, 0, -4, 0), api.ErrArg},
	}
}

func TestP7_1_CheckPlate(t *testing.T) {
	for i, p := range []api.MendPlate{
		plateP(), plateQ(), full(), same(6, 6, 0), same(6, 1, 30), same(1, 6, 30), plate(1, 1, 0), plate(1, 1, 30), plate(3, 1, 0, 30, 0),
	} {
		if e := mend.CheckPlate(p); e != api.OK {
			t.Error(i, e)
		}
	}
	for _, x := range wrongPlates() {
		if e := mend.CheckPlate(x.p); e != x.e {
			t.Error(x.why, e, "not", x.e)
		}
	}
	for _, x := range extremes {
		for _, p := range []api.MendPlate{plate(x, 1, 0), plate(1, x, 0), plate(x, x, 0), plate(x, x), plate(x, 0), plate(0, x)} {
			if e := mend.CheckPlate(p); e != api.ErrRange {
				t.Error(p, e)
			}
		}
		for i := range 4 {
			if e := mend.CheckPlate(withDent(plateP(), i, int64(x))); e != api.ErrArg {
				t.Error(x, i, e)
			}
		}
	}
}

// TestP7_1_EachNumber checks for all numbers about the limits which ones are valid.
func TestP7_1_EachNumber(t *testing.T) {
	for wide := -2; wide < 10; wide++ {
		for high := -2; high < 10; high++ {
			for n := range 50 {
				want := api.OK
				if min(wide, high) < 1 || max(wide, high) > 6 {
					want = api.ErrRange
				} else if n != wide*high {
					want = api.ErrEqual
				}
				if e := mend.CheckPlate(plate(wide, high, make([]int64, n)...)); e != want {
					t.Error(wide, high, n, e, "not", want)
				}
			}
		}
	}
	for x := int64(-40); x < 70; x++ {
		want := api.OK
		if x < 0 || x > 30 {
			want = api.ErrArg
		}
		for i := range 36 {
			if e := mend.CheckPlate(withDent(same(6, 6, 7), i, x)); e != want {
				t.Error(x, i, e, "not", want)
			}
		}
	}
}

// TestPlateFirst checks that the error of a plate comes before all others.
func TestPlateFirst(t *testing.T) {
	for _, x := range wrongPlates() {
		a := right()
		a.p = x.p
		for _, a := range []asked{a, {x.p, x.p, 0, nil, 2, 2}, {x.p, api.MendPlate{}, -1, longs(-1), 2, 2}, {x.p, same(7, 7, 0), 99, make([]int64, 40), 2, 2}} {
			for i, e := range answers(t, a) {
				if i < withPlate && e != x.e {
					t.Error(x.why, i, e, "not", x.e, a)
				}
			}
		}
	}
}

// TestPlaces checks which numbers are places.
func TestPlaces(t *testing.T) {
	for _, x := range append(extremes, -100, -2, -1, 4, 5, 6, 35, 36) {
		for _, a := range []asked{right(), rightFlat()} { // before ErrState
			a.place = x
			expect(t, a, api.ErrArg, forBlow)
		}
	}
	for wide, high := range sizes(6) {
		for i := -3; i < 40; i++ {
			want := api.OK
			if i < 0 || i >= wide*high {
				want = api.ErrArg
			}
			if _, e := mend.Blow(same(wide, high, 4), i); e != want {
				t.Error(wide, high, i, e)
			}
		}
	}
}

// checkBlow checks what Blow returns for all places of a plate, and for one in front of and behind all.
func checkBlow(t *testing.T, p api.MendPlate) {
	t.Helper()
	for i := -1; i <= len(p.Dents); i++ {
		var want []int64
		errno := api.OK
		switch {
		case i < 0 || i == len(p.Dents):
			errno = api.ErrArg
		case p.Dents[i] <= 3:
			errno = api.ErrState
		default:
			want = struck(p, i, 1)
		}
		if l, e := mend.Blow(p, i); !slices.Equal(l, want) || e != errno {
			t.Fatal(p, i, l, e, "not", want, errno)
		}
	}
}

func TestP7_2_Blow(t *testing.T) {
	for i, x := range []struct {
		p     api.MendPlate
		place int
		l     []int64
		e     api.Errno
	}{
		{plate(1, 1, 4), 0, longs(0), api.OK},
		{plate(1, 1, 30), 0, longs(26), api.OK},
		{plate(1, 1, 3), 0, nil, api.ErrState},
		{plate(1, 1, 0), 0, nil, api.ErrState},
		{plate(3, 1, 30, 30, 30), 1, longs(31, 26, 31), api.OK},
		{plate(1, 3, 30, 30, 30), 1, longs(31, 26, 31), api.OK},
		{plate(3, 2, 0, 0, 4, 4, 0, 0), 2, longs(0, 1, 0, 4, 0, 1), api.OK}, // the end of a row is not beside the next one's start
		{plate(3, 2, 0, 0, 4, 4, 0, 0), 3, longs(1, 0, 4, 0, 1, 0), api.OK},
		{plate(2, 3, 4, 0, 0, 9, 0, 0), 3, longs(4, 1, 1, 5, 0, 1), api.OK},
		{same(6, 6, 30), 0, slices.Concat(longs(26, 31), slices.Repeat(longs(30), 4), longs(31), slices.Repeat(longs(30), 29)), api.OK},
		{same(6, 6, 30), 35, slices.Concat(slices.Repeat(longs(30), 29), longs(31), slices.Repeat(longs(30), 4), longs(31, 26)), api.OK},
	} {
		if l, e := mend.Blow(x.p, x.place); !slices.Equal(l, x.l) || e != x.e {
			t.Error(i, l, e)
		}
	}
	for _, p := range plates(1, 6, 3000) {
		checkBlow(t, p)
	}
	for p := range allPlates(3, 2, 4) {
		checkBlow(t, p)
	}
}

// checkFlat checks what Flatten and Lost return.
func checkFlat(t *testing.T, p api.MendPlate, flat, blows []int64) {
	t.Helper()
	if a, b, e := mend.Flatten(p); !slices.Equal(a, flat) || !slices.Equal(b, blows) || e != api.OK {
		t.Fatal(p, a, b, e, "not", flat, blows)
	}
	lost := int64(0)
	for i, dent := range p.Dents {
		lost += dent - flat[i]
	}
	if n, e := mend.Lost(p); n != lost || e != api.OK {
		t.Fatal(p, n, e, "not", lost)
	}
}

func TestP7_3_Flatten(t *testing.T) {
	for _, x := range []struct {
		p           api.MendPlate
		flat, blows []int64
	}{
		{plate(1, 1, 30), longs(2), longs(7)},
		{plate(1, 1, 4), longs(0), longs(1)},
		{plate(1, 1, 3), longs(3), longs(0)},
		{plate(2, 1, 4, 3), longs(1, 0), longs(1, 1)},
		{plate(3, 1, 0, 8, 0), longs(2, 0, 2), longs(0, 2, 0)},
		{plate(1, 3, 3, 4, 3), longs(0, 2, 0), longs(1, 1, 1)},
		{same(2, 2, 6), longs(2, 2, 2, 2), longs(2, 2, 2, 2)},
		{same(6, 6, 3), same(6, 6, 3).Dents, same(6, 6, 0).Dents},
		{same(6, 6, 0), same(6, 6, 0).Dents, same(6, 6, 0).Dents},
	} {
		checkFlat(t, x.p, x.flat, x.blows)
	}
	for dent := range int64(31) {
		checkFlat(t, plate(1, 1, dent), longs(dent%4), longs(dent/4))
	}
}

func TestP7_3_AnyPlate(t *testing.T) {
	for _, p := range plates(2, 6, 1500) {
		flat, blows := hammered(p, last)
		checkFlat(t, p, flat, blows)
	}
	for p := range allPlates(2, 1, 30) {
		flat, blows := hammered(p, last)
		checkFlat(t, p, flat, blows)
	}
	for p := range allPlates(2, 2, 9) {
		flat, blows := hammered(p, last)
		checkFlat(t, p, flat, blows)
	}
}

func TestP7_4_CheckBlows(t *testing.T) {
	p, most := plateP(), int64(1000000)
	for i, x := range []struct {
		p     api.MendPlate
		blows []int64
		e     api.Errno
	}{
		{p, longs(1, 1, 1, 1), api.OK},
		{p, longs(2, 1, 1, 1), api.OK},
		{p, longs(2, 2, 2, 2), api.OK},
		{p, longs(most, most, most, most), api.OK},
		{p, longs(most, most, most, most-1), api.OK},
		{p, longs(most, 1, 1, most), api.ErrMend},
		{p, longs(0, 0, 0, 0), api.ErrMend},
		{p, longs(9, 1, 1, 1), api.ErrMend},
		{p, longs(0, 1, 1, 1), api.ErrMend},
		{p, longs(1, 1, 1, 0), api.ErrMend},
		{plate(1, 1, 30), longs(7), api.OK},
		{plate(1, 1, 30), longs(6), api.ErrMend},
		{plate(1, 1, 30), longs(8), api.OK}, // down to -2
		{plate(1, 1, 30), longs(most), api.OK},
		{plate(1, 1, 0), longs(0), api.OK},
		{plate(1, 1, 0), longs(1), api.OK}, // not possible
		{plate(2, 1, 0, 0), longs(0, 3), api.OK},
		{plate(2, 1, 0, 0), longs(0, 4), api.ErrMend}, // flat before, but not behind
		{plate(2, 1, 0, 0), longs(1, 7), api.OK},
		{plate(2, 1, 0, 0), longs(1, 8), api.ErrMend},
		{full(), same(6, 6, most).Dents, api.ErrMend}, // those in the middle stay at 30
		{same(6, 6, 3), same(6, 6, most).Dents, api.OK},
		{plate(1, 1, 3), longs(most + 1), api.ErrRange},
		{plate(1, 1, 3), longs(-1), api.ErrRange},
		{p, longs(1, 1, 1, -1), api.ErrRange},
		{p, longs(1, 1, 1, most+1), api.ErrRange},
		{p, longs(most+1, 1, 1, 1), api.ErrRange},
		{p, longs(1, 1, 1), api.ErrEqual},
		{p, longs(1, 1, 1, 1, 1), api.ErrEqual},
		{p, nil, api.ErrEqual},
		{full(), slices.Repeat(longs(40), 35), api.ErrEqual},
		{full(), slices.Repeat(longs(40), 37), api.ErrEqual},
		// R1
		{p, longs(-1, most+1, 1), api.ErrEqual},
		{p, longs(-1, 1, 1, 1, 1), api.ErrEqual},
		{p, longs(0, 0, 0, -1), api.ErrRange},
		{p, longs(0, 0, 0, most+1), api.ErrRange},
	} {
		if e := mend.CheckBlows(x.p, x.blows); e != x.e {
			t.Error(i, e, "not", x.e)
		}
	}
	for _, x := range extremes {
		for i := range 4 {
			blows := longs(1, 1, 1, 1)
			blows[i] = int64(x)
			if e := mend.CheckBlows(p, blows); e != api.ErrRange {
				t.Error(x, i, e)
			}
		}
	}
}

// checkBlows checks what CheckBlows returns for blows, one of which there is for each place; it returns it.
func checkBlows(t *testing.T, p api.MendPlate, blows []int64) api.Errno {
	t.Helper()
	want := api.OK
	if slices.Max(behind(p, blows)) > 3 {
		want = api.ErrMend
	}
	if e := mend.CheckBlows(p, blows); e != want {
		t.Fatal(p, blows, e, "not", want)
	}
	return want
}

func TestP7_4_AnyBlows(t *testing.T) {
	d := dice(3)
	var seen [30]int
	for _, p := range plates(4, 6, 1500) {
		_, blows := hammered(p, last)
		for range 10 {
			seen[checkBlows(t, p, d.blows(blows, 1))]++
			seen[checkBlows(t, p, d.blows(make([]int64, len(blows)), 1000000))]++
		}
		for i := range blows { // one less nowhere does
			if blows[i] > 0 {
				blows[i]--
				seen[checkBlows(t, p, blows)]++
				blows[i]++
			}
		}
		seen[checkBlows(t, p, blows)]++
	}
	for p := range allPlates(2, 1, 9) {
		for q := range allPlates(2, 1, 9) {
			seen[checkBlows(t, p, q.Dents)]++
		}
	}
	if min(seen[api.OK], seen[api.ErrMend]) < 1000 {
		t.Error("too few of a kind:", seen)
	}
}

func TestP7_5_Upon(t *testing.T) {
	for i, x := range []struct {
		p, q api.MendPlate
		l    []int64
		e    api.Errno
	}{
		{plate(1, 1, 3), plate(1, 1, 2), longs(1), api.OK},
		{plate(1, 1, 1), plate(1, 1, 2), longs(3), api.OK},
		{plate(1, 1, 30), plate(1, 1, 30), longs(0), api.OK},
		{plateP(), same(2, 2, 0), longs(3, 1, 0, 1), api.OK},
		{same(2, 2, 0), plateP(), longs(3, 1, 0, 1), api.OK},
		{plate(2, 1, 1, 2), plate(2, 1, 2, 0), longs(3, 2), api.OK},
		{plate(2, 1, 0, 0), plate(1, 2, 0, 0), nil, api.ErrEqual},
		{plate(2, 1, 0, 0), plate(2, 2, 0, 0, 0, 0), nil, api.ErrEqual},
		{plate(1, 2, 0, 0), plate(2, 2, 0, 0, 0, 0), nil, api.ErrEqual},
		{same(6, 4, 0), same(4, 6, 0), nil, api.ErrEqual},
		{same(6, 4, 0), same(6, 6, 0), nil, api.ErrEqual},
		// R1
		{plate(2, 1, 0, 0), plate(1, 0), nil, api.ErrRange},
		{plate(2, 1, 0, -1), plate(1, 0), nil, api.ErrArg},
		{plate(2, 1, 0), plate(1, 0), nil, api.ErrEqual},
		{plate(7, 1), plate(2, 1, 0, 31), nil, api.ErrRange},
		{plate(2, 1, 0, 0), plate(1, 1, -1), nil, api.ErrArg},
		{plate(2, 1, 0, 0), plate(1, 1, 31), nil, api.ErrArg},
	} {
		if l, e := mend.Upon(x.p, x.q); !slices.Equal(l, x.l) || e != x.e {
			t.Error(i, l, e)
		}
	}
	for _, x := range wrongPlates() {
		for _, p := range []api.MendPlate{plateP(), plate(1, 1, 0), full()} {
			a := right()
			a.p, a.q, a.blows = p, x.p, make([]int64, len(p.Dents))
			if e := answers(t, a)[forUpon]; e != x.e {
				t.Error(x.why, e, "not", x.e)
			}
		}
	}
}

func TestP7_5_AnyPlates(t *testing.T) {
	d := dice(5)
	for _, p := range plates(6, 6, 1500) {
		for _, most := range []int{3, 7, 30} {
			q := d.dents(p, most)
			if l, e := mend.Upon(p, q); !slices.Equal(l, laid(p, q)) || e != api.OK {
				t.Fatal(p, q, l, e, "not", laid(p, q))
			}
		}
		q := d.plate(6)
		if l, e := mend.Upon(p, q); (e == api.OK) != (p.Wide == q.Wide && p.High == q.High) || e != api.OK && (e != api.ErrEqual || len(l) > 0) {
			t.Fatal(p, q, l, e)
		}
	}
}

// checkFire checks what Burn and Back return; it returns whether the plate comes back.
func checkFire(t *testing.T, p api.MendPlate) bool {
	t.Helper()
	var want []int
	errno := api.ErrState
	if isFlat(p) {
		want, errno = burntOf(p), api.OK
	}
	back := len(want) == len(p.Dents)
	if l, e := mend.Burn(p); !slices.Equal(l, want) || e != errno {
		t.Fatal(p, l, e, "not", want, errno)
	}
	if b, e := mend.Back(p); b != back || e != errno {
		t.Fatal(p, b, e, "not", back, errno)
	}
	return back
}

func TestP7_6_Burn(t *testing.T) {
	for i, x := range []struct {
		p api.MendPlate
		l []int
		e api.Errno
	}{
		{plate(1, 1, 0), of(0), api.OK},
		{plate(1, 1, 3), of(0), api.OK},
		{plate(1, 1, 4), nil, api.ErrState},
		{plate(2, 1, 0, 0), nil, api.OK},
		{plate(2, 1, 0, 1), of(1, 0), api.OK},
		{plate(2, 1, 1, 0), of(0, 1), api.OK},
		{plate(3, 1, 1, 0, 0), of(0), api.OK},
		{plate(3, 1, 1, 1, 0), of(0, 1, 2), api.OK},
		{plate(1, 3, 0, 2, 0), of(1, 0, 2), api.OK},
		{plate(1, 3, 0, 1, 1), of(2, 1, 0), api.OK},
		{same(2, 2, 2), of(0, 1, 2, 3), api.OK},
		{plate(2, 2, 3, 1, 0, 1), of(0, 1, 3, 2), api.OK},
		{plate(2, 2, 0, 1, 1, 2), of(3, 1, 2, 0), api.OK}, // from the last one back to the first one
		{plate(2, 2, 3, 3, 3, 4), nil, api.ErrState},
		{full(), nil, api.ErrState},
	} {
		if l, e := mend.Burn(x.p); !slices.Equal(l, x.l) || e != x.e {
			t.Error(i, l, e)
		}
		if b, e := mend.Back(x.p); b != (x.e == api.OK && len(x.l) == len(x.p.Dents)) || e != x.e {
			t.Error(i, b, e)
		}
	}
}

func TestP7_6_AnyPlate(t *testing.T) {
	seen := map[bool]int{}
	for wide, high := range sizes(3) {
		if wide*high > 6 {
			continue
		}
		for p := range allPlates(wide, high, 3) {
			seen[checkFire(t, p)]++
		}
	}
	d := dice(7)
	for range 3000 {
		p := d.dents(d.plate(6), 3)
		for i := range p.Dents {
			if d.upTo(2) > 0 {
				p.Dents[i] = max(p.Dents[i], 2) // more of those that burn
			}
		}
		seen[checkFire(t, p)]++
	}
	for _, p := range plates(8, 6, 1000) {
		checkFire(t, p)
	}
	if min(seen[false], seen[true]) < 1000 {
		t.Error("too few of a kind:", seen)
	}
}

// areSides tells whether a width and a height are from 1 to a side.
func areSides(wide, high, side int) bool { return min(wide, high) >= 1 && max(wide, high) <= side }

// checkSides checks with which widths and heights a function has an error.
func checkSides(t *testing.T, function, side int) {
	t.Helper()
	check := func(wide, high int) {
		a := right()
		a.wide, a.high = wide, high
		want := api.OK
		if !areSides(wide, high, side) {
			want = api.ErrRange
		}
		if e := answers(t, a)[function]; e != want {
			t.Error(wide, high, e, "not", want)
		}
	}
	for wide := -3; wide < 12; wide++ {
		for high := -3; high < 12; high++ {
			check(wide, high)
		}
	}
	for _, x := range extremes {
		check(x, 1)
		check(1, x)
		check(x, x)
		check(x, math.MaxInt)
		check(x, 0)
	}
}

func TestP7_7_Neutral(t *testing.T) {
	checkSides(t, forNeutral, 6)
	for i, x := range []struct {
		wide, high int
		l          []int64
	}{
		{1, 1, longs(0)},
		{2, 1, longs(3, 3)},
		{1, 3, longs(3, 2, 3)},
		{6, 1, longs(3, 2, 2, 2, 2, 3)},
		{2, 2, longs(2, 2, 2, 2)},
		{3, 2, longs(2, 1, 2, 2, 1, 2)},
		{3, 3, longs(2, 1, 2, 1, 0, 1, 2, 1, 2)},
	} {
		if l, e := mend.Neutral(x.wide, x.high); !slices.Equal(l, x.l) || e != api.OK {
			t.Error(i, l, e)
		}
	}
}

// TestP7_7_Only looks for the neutral plate among all flat plates that come back; there is just one of them.
func TestP7_7_Only(t *testing.T) {
	for wide, high := range sizes(6) {
		if wide*high > 6 {
			continue
		}
		list := neutralsOf(returning(wide, high))
		if len(list) != 1 {
			t.Fatal(wide, high, list)
		}
		if l, e := mend.Neutral(wide, high); !slices.Equal(l, list[0].Dents) || e != api.OK {
			t.Error(wide, high, l, e, "not", list[0].Dents)
		}
	}
}

// TestP7_7_Great checks the greater ones: what is laid upon itself and stays the same is the neutral plate, if it comes back.
func TestP7_7_Great(t *testing.T) {
	for wide, high := range sizes(6) {
		l, e := mend.Neutral(wide, high)
		if len(l) != wide*high || e != api.OK {
			t.Fatal(wide, high, l, e)
		}
		p := plate(wide, high, l...)
		if !isFlat(p) || slices.Min(l) < 0 || len(burntOf(p)) != len(l) || !slices.Equal(laid(p, p), l) {
			t.Error(wide, high, l)
		}
	}
}

func TestP7_8_Count(t *testing.T) {
	checkSides(t, forCount, 4)
	for i, x := range []struct {
		wide, high int
		n          int64
	}{
		{1, 1, 4}, {2, 1, 15}, {1, 3, 56}, {4, 1, 209}, {2, 2, 192}, {3, 3, 100352}, {4, 4, 557568000},
	} {
		if n, e := mend.Count(x.wide, x.high); n != x.n || e != api.OK {
			t.Error(i, n, e)
		}
	}
	for wide, high := range sizes(4) {
		if n, e := mend.Count(wide, high); n != product(wide, high) || e != api.OK {
			t.Error(wide, high, n, e, "not", product(wide, high))
		}
	}
}
