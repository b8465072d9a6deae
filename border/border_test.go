package border_test

import (
	"math"
	"slices"
	"testing"

	"burin/api"
	"burin/border"
)

// extremes are numbers of which no one is an hour, a zone, a constellation, a tint, or how many there are.
var extremes = []int{math.MinInt, math.MinInt + 1, -1 << 40, 1 << 40, math.MaxInt - 1, math.MaxInt}

// asked is what functions are asked about a sky.
type asked struct {
	hour, zone, land, other int
	tints                   []int
	box                     api.BorderBox
}

// answers calls each function of a sky that has more results than an error, and returns the errors in a fixed order.
// It reports other results that are not zero, together with an error.
func answers(t *testing.T, s api.BorderSky, a asked) []api.Errno {
	t.Helper()
	lands, e0 := border.Of(s, a.hour, a.zone)
	hour, zone, count, e1 := border.Fault(s)
	size, e2 := border.Size(s, a.land)
	pieces, e3 := border.Pieces(s, a.land)
	long, e4 := border.Border(s, a.land, a.other)
	near, e5 := border.Neighbours(s, a.land)
	different, e6 := border.CheckTints(s, a.tints)
	tints, e7 := border.Tints(s)
	kind, e8 := border.Kind(s, a.land, a.box)
	runs, e9 := border.Runs(s, a.land)
	given, e10 := border.Give(s, a.land, a.box)
	errors := []api.Errno{e0, e1, e2, e3, e4, e5, e6, e7, e8, e9, e10}
	zero := []bool{
		len(lands) == 0, hour == 0 && zone == 0 && count == 0, size == 0, pieces == 0, long == 0, len(near) == 0,
		different == 0, len(tints) == 0, kind == 0, len(runs) == 0, same(given, api.BorderSky{}),
	}
	for i, e := range errors {
		if e != api.OK && !zero[i] {
			t.Error("a result with an error:", i, e)
		}
	}
	return errors
}

func TestP3_1_CheckSky(t *testing.T) {
	many := make([][]api.BorderBox, 11)
	for i, x := range []struct {
		s api.BorderSky
		e api.Errno
	}{
		{skyS(), api.OK},
		{skyG(), api.OK},
		{skyT(), api.OK},
		{sky(1, 1), api.OK},
		{sky(1, 1, boxes(0, 1, 0, 1, 0, 1, 0, 1)), api.OK},
		{sky(48, 24), api.OK},
		{sky(48, 24, boxes(47, 48, 23, 24, 0, 1, 0, 24)), api.OK},
		{sky(48, 24, many[:10]...), api.OK},
		{fullSky(), api.OK},
		{sky(3, 2, nil, boxes(2, 3, 1, 2), nil), api.OK},
		{api.BorderSky{}, api.ErrRange},
		{sky(0, 3), api.ErrRange},
		{sky(-1, 3), api.ErrRange},
		{sky(49, 3), api.ErrRange},
		{sky(3, 0), api.ErrRange},
		{sky(3, -1), api.ErrRange},
		{sky(3, 25), api.ErrRange},
		{sky(48, 25), api.ErrRange},
		{sky(3, 3, many...), api.ErrMany},
		{sky(3, 3, slices.Repeat(boxes(0, 1, 0, 1), 601)), api.ErrMany},
		{sky(3, 3, nil, boxes(0, 1, 0, 1), slices.Repeat(boxes(0, 1, 0, 1), 601)), api.ErrMany},
		{sky(3, 2, boxes(3, 1, 0, 1)), api.ErrArg},
		{sky(3, 2, boxes(-1, 1, 0, 1)), api.ErrArg},
		{sky(3, 2, boxes(0, 0, 0, 1)), api.ErrArg},
		{sky(3, 2, boxes(0, -1, 0, 1)), api.ErrArg},
		{sky(3, 2, boxes(0, 4, 0, 1)), api.ErrArg},
		{sky(3, 2, boxes(0, 1, -1, 1)), api.ErrArg},
		{sky(3, 2, boxes(0, 1, 2, 3)), api.ErrArg},
		{sky(3, 2, boxes(0, 1, 1, 1)), api.ErrArg},
		{sky(3, 2, boxes(0, 1, 1, 0)), api.ErrArg},
		{sky(3, 2, boxes(0, 1, 0, 3)), api.ErrArg},
		{sky(3, 2, nil, boxes(0, 1, 0, 1), boxes(0, 1, 0, 1, 0, 0, 0, 0)), api.ErrArg},
		// R1: all elements are looked at for one error before any of them is for the next one
		{sky(0, 3, many...), api.ErrRange},
		{sky(3, 25, slices.Repeat(boxes(9, 9, 9, 9), 601)), api.ErrRange},
		{sky(3, 0, boxes(0, 1, 0, 1)), api.ErrRange},
		{sky(3, 2, append(many[1:], boxes(9, 9, 9, 9), nil)...), api.ErrMany},
		{sky(3, 2, boxes(9, 9, 9, 9), slices.Repeat(boxes(0, 1, 0, 1), 601)), api.ErrMany},
		{sky(3, 2, slices.Repeat(boxes(9, 9, 9, 9), 601)), api.ErrMany},
	} {
		if e := border.CheckSky(x.s); e != x.e {
			t.Error(i, e, "not", x.e)
		}
		if x.e == api.OK {
			continue
		}
		if e := border.Once(x.s); e != x.e {
			t.Error(i, e, "not", x.e)
		}
		// with other errors that come after it, and without them
		wrong := asked{-1, -1, -1, -1, make([]int, 12), bx(9, 9, 9, 9)}
		right := asked{0, 0, 0, 1, make([]int, len(x.s.Lands)), bx(0, 1, 0, 1)}
		for k, e := range append(answers(t, x.s, wrong), answers(t, x.s, right)...) {
			if e != x.e {
				t.Error(i, k, e, "not", x.e)
			}
		}
	}
}

func TestP3_1_Extremes(t *testing.T) {
	for _, x := range extremes {
		for i, s := range []api.BorderSky{sky(x, 3), sky(3, x), sky(x, x, boxes(x, x, x, x))} {
			if e := border.CheckSky(s); e != api.ErrRange {
				t.Error(x, i, e)
			}
		}
		for i, b := range []api.BorderBox{bx(x, 1, 0, 1), bx(0, x, 0, 1), bx(0, 1, x, 1), bx(0, 1, 0, x), bx(x, x, x, x), bx(0, 1, x, x+1)} {
			if e := border.CheckSky(sky(3, 2, boxes(0, 1, 0, 1), []api.BorderBox{b})); e != api.ErrArg {
				t.Error(x, i, e)
			}
		}
	}
}

func TestP3_1_Boxes(t *testing.T) {
	for hours := 1; hours < 4; hours++ {
		for zones := 1; zones < 4; zones++ {
			for i := range 6 * 6 * 6 * 6 {
				b := bx(i%6-1, i/6%6-1, i/36%6-1, i/216-1)
				want := api.ErrArg
				if slices.Contains(allBoxes(sky(hours, zones)), b) {
					want = api.OK
				}
				if e := border.CheckSky(sky(hours, zones, []api.BorderBox{b})); e != want {
					t.Fatal(hours, zones, b, e, "not", want)
				}
			}
		}
	}
}

func TestP3_1_Of(t *testing.T) {
	for _, s := range skies(1, 400, 6) {
		for hour := -2; hour < s.Hours+2; hour++ {
			for zone := -2; zone < s.Zones+2; zone++ {
				l, e := border.Of(s, hour, zone)
				if hour < 0 || hour >= s.Hours || zone < 0 || zone >= s.Zones {
					if len(l) > 0 || e != api.ErrRange {
						t.Fatal(s, hour, zone, l, e)
					}
					continue
				}
				if want := landsAt(s, hour, zone); !slices.Equal(l, want) || e != api.OK {
					t.Fatal(s, hour, zone, l, e, "not", want)
				}
			}
		}
	}
	for _, x := range extremes {
		for _, p := range []spot{{x, 0}, {0, x}, {x, x}} {
			if l, e := border.Of(skyS(), p[0], p[1]); len(l) > 0 || e != api.ErrRange {
				t.Error(p, l, e)
			}
		}
	}
}

func TestP3_2_OnceFault(t *testing.T) {
	once, none, several := 0, 0, 0
	for _, s := range slices.Concat(skies(2, 400, 5), partedSkies(3, 200, 5)) {
		hour, zone, n, e := border.Fault(s)
		wrong := slices.DeleteFunc(spots(s), func(p spot) bool { return len(landsAt(s, p[0], p[1])) == 1 })
		if len(wrong) == 0 {
			once++
			if hour != 0 || zone != 0 || n != 0 || e != api.ErrNone || border.Once(s) != api.OK {
				t.Fatal(s, hour, zone, n, e)
			}
			continue
		}
		p := wrong[0]
		want := len(landsAt(s, p[0], p[1]))
		if want == 0 {
			none++
		} else {
			several++
		}
		if hour != p[0] || zone != p[1] || n != want || e != api.OK || border.Once(s) != api.ErrSky {
			t.Fatal(s, hour, zone, n, e, "not", p, want)
		}
	}
	if min(once, none, several) < 50 {
		t.Error("too few of a kind:", once, none, several)
	}
}

func TestP3_2_Order(t *testing.T) {
	for i, x := range []struct {
		s             api.BorderSky
		hour, zone, n int
	}{
		{sky(1, 1), 0, 0, 0},
		{sky(2, 3, boxes(0, 2, 0, 1, 0, 1, 1, 2)), 1, 1, 0},             // the least zone, though 0 2 has a lesser hour
		{sky(3, 2, boxes(0, 3, 0, 2), boxes(2, 2, 1, 2)), 0, 1, 2},      // the least hour, over hour 0
		{sky(3, 1, boxes(0, 3, 0, 1, 1, 2, 0, 1), nil, nil), -1, -1, 1}, // twice in one is in just one
		{sky(2, 2, slices.Repeat([][]api.BorderBox{boxes(1, 1, 1, 2, 0, 2, 0, 1)}, 10)...), 0, 0, 10},
	} {
		hour, zone, n, e := border.Fault(x.s)
		if x.n == 1 {
			if e != api.ErrNone {
				t.Error(i, e)
			}
			continue
		}
		if hour != x.hour || zone != x.zone || n != x.n || e != api.OK {
			t.Error(i, hour, zone, n, e)
		}
	}
}

// landsThatAreNone are numbers that are no constellation of a sky.
func landsThatAreNone(s api.BorderSky) []int {
	return append(of(-1, len(s.Lands), 10), extremes...)
}

func TestP3_3_SizePieces(t *testing.T) {
	var seen [3]int
	for _, s := range slices.Concat(skies(4, 500, 4), partedSkies(5, 200, 4)) {
		for land := range s.Lands {
			n, e := border.Size(s, land)
			if want := len(spotsOf(s, land)); n != want || e != api.OK {
				t.Fatal(s, land, n, e, "not", want)
			}
			m, e := border.Pieces(s, land)
			want := piecesOf(s, land)
			if m != want || e != api.OK {
				t.Fatal(s, land, m, e, "not", want)
			}
			seen[min(want, 2)]++
		}
		for _, land := range landsThatAreNone(s) {
			n, e := border.Size(s, land)
			m, f := border.Pieces(s, land)
			if n != 0 || e != api.ErrArg || m != 0 || f != api.ErrArg {
				t.Fatal(s, land, n, e, m, f)
			}
		}
	}
	if min(seen[0], seen[1], seen[2]) < 100 {
		t.Error("too few of a kind:", seen)
	}
}

func TestP3_3_Round(t *testing.T) {
	for i, x := range []struct {
		s            api.BorderSky
		size, pieces int
	}{
		{sky(6, 1, boxes(5, 1, 0, 1, 0, 1, 0, 1)), 2, 1},             // over hour 0
		{sky(6, 1, boxes(5, 2, 0, 1)), 2, 1},                         // in one box
		{sky(6, 1, boxes(4, 1, 0, 1, 0, 1, 0, 1)), 2, 2},             // not side by side
		{sky(3, 3, boxes(0, 1, 0, 1, 0, 1, 2, 3)), 2, 2},             // zones do not go round
		{sky(3, 2, boxes(0, 1, 0, 1, 1, 1, 1, 2)), 2, 2},             // a corner is not enough
		{sky(2, 1, boxes(0, 1, 0, 1, 1, 1, 0, 1)), 2, 1},             // two hours
		{sky(1, 3, boxes(0, 1, 0, 1, 0, 1, 2, 3)), 2, 2},             // one hour
		{sky(4, 4, boxes(3, 2, 0, 1, 0, 1, 0, 4, 2, 3, 3, 4)), 7, 1}, // round a corner, and over hour 0
	} {
		n, e := border.Size(x.s, 0)
		m, f := border.Pieces(x.s, 0)
		if n != x.size || m != x.pieces || e != api.OK || f != api.OK {
			t.Error(i, n, e, m, f)
		}
	}
}

func TestP3_4_BorderNeighbours(t *testing.T) {
	apart, along, over := 0, 0, 0
	for _, s := range slices.Concat(skies(6, 400, 5), partedSkies(7, 200, 5)) {
		for one := range s.Lands {
			for two := range s.Lands {
				n, e := border.Border(s, one, two)
				if one == two {
					if n != 0 || e != api.ErrEqual {
						t.Fatal(s, one, two, n, e)
					}
					continue
				}
				want := borderOf(s, one, two)
				if n != want || e != api.OK {
					t.Fatal(s, one, two, n, e, "not", want)
				}
				switch {
				case want > 0:
					along++
				case areNeighbours(s, one, two):
					over++
				default:
					apart++
				}
			}
			if l, e := border.Neighbours(s, one); !slices.Equal(l, neighboursOf(s, one)) || e != api.OK {
				t.Fatal(s, one, l, e)
			}
		}
		for _, land := range landsThatAreNone(s) {
			l, e := border.Neighbours(s, land)
			if len(l) > 0 || e != api.ErrArg {
				t.Fatal(s, land, l, e)
			}
			for _, p := range []spot{{land, 0}, {0, land}, {land, land}} {
				if n, e := border.Border(s, p[0], p[1]); n != 0 || e != api.ErrArg {
					t.Fatal(s, p, n, e)
				}
			}
		}
	}
	if along < 500 || apart < 100 || over < 10 {
		t.Error("too few of a kind:", along, apart, over)
	}
}

func TestP3_4_Round(t *testing.T) {
	for i, x := range []struct {
		s    api.BorderSky
		n    int
		near []int
	}{
		{sky(2, 1, boxes(0, 1, 0, 1), boxes(1, 1, 0, 1)), 1, of(1)}, // with two hours just once
		{sky(2, 1, boxes(0, 2, 0, 1), boxes(0, 2, 0, 1)), 2, of(1)}, // but both ways
		{sky(3, 1, boxes(0, 1, 0, 1), boxes(1, 1, 0, 1)), 1, of(1)},
		{sky(3, 1, boxes(0, 1, 0, 1), boxes(2, 1, 0, 1)), 1, of(1)}, // over hour 0
		{sky(3, 1, boxes(0, 1, 0, 1), boxes(1, 2, 0, 1)), 2, of(1)},
		{sky(1, 1, boxes(0, 1, 0, 1), boxes(0, 1, 0, 1)), 0, of(1)}, // a place is not beside itself
		{sky(1, 2, boxes(0, 1, 0, 1), boxes(0, 1, 1, 2)), 1, of(1)},
		{sky(1, 3, boxes(0, 1, 0, 1), boxes(0, 1, 2, 3)), 0, nil},   // zones do not go round
		{sky(4, 2, boxes(0, 1, 0, 1), boxes(1, 1, 1, 2)), 0, nil},   // a corner is none
		{sky(4, 4, boxes(1, 1, 1, 2), boxes(1, 1, 1, 2)), 0, of(1)}, // a place in both is enough
		{sky(4, 4, boxes(1, 1, 1, 2), boxes(0, 4, 0, 4)), 4, of(1)},
		{sky(4, 4, boxes(1, 1, 1, 2), nil), 0, nil},
		{sky(4, 4, boxes(1, 1, 1, 2), nil, boxes(2, 1, 1, 2), boxes(3, 1, 1, 2), boxes(0, 1, 1, 2)), 0, of(2, 4)},
	} {
		n, e := border.Border(x.s, 0, 1)
		l, f := border.Neighbours(x.s, 0)
		if n != x.n || e != api.OK || !slices.Equal(l, x.near) || f != api.OK {
			t.Error(i, n, e, l, f)
		}
	}
}

func TestP3_5_CheckTints(t *testing.T) {
	good, bad := 0, 0
	for _, s := range slices.Concat(skies(8, 120, 4), partedSkies(9, 60, 4)) {
		lands, near := len(s.Lands), near(s)
		for _, l := range allLists(lands) {
			want, errno := countOf(l), api.OK
			if !areTints(near, l) {
				want, errno = 0, api.ErrSky
				bad++
			} else {
				good++
			}
			if n, e := border.CheckTints(s, l); n != want || e != errno {
				t.Fatal(s, l, n, e, "not", want, errno)
			}
		}
		for _, x := range append(of(-1, lands, lands+1), extremes...) {
			for at := range lands {
				l := make([]int, lands) // two neighbours may have the same one, too
				l[at] = x
				if n, e := border.CheckTints(s, l); n != 0 || e != api.ErrRange {
					t.Fatal(s, l, n, e)
				}
			}
			for _, l := range [][]int{slices.Repeat(of(x), lands+1), slices.Repeat(of(x), max(lands-1, 0))} {
				if n, e := border.CheckTints(s, l); lands > 0 && (n != 0 || e != api.ErrEqual) {
					t.Fatal(s, l, n, e)
				}
			}
		}
	}
	if n, e := border.CheckTints(sky(1, 1), of(0)); n != 0 || e != api.ErrEqual {
		t.Error(n, e)
	}
	if min(good, bad) < 500 {
		t.Error("too few of a kind:", good, bad)
	}
}

func TestP3_5_Tints(t *testing.T) {
	var seen [6]int
	for _, s := range slices.Concat(skies(10, 300, 5), partedSkies(11, 150, 5)) {
		l, e := border.Tints(s)
		if want := tintsOf(near(s)); !slices.Equal(l, want) || e != api.OK {
			t.Fatal(s, l, e, "not", want)
		}
		seen[countOf(l)]++
	}
	if min(seen[1], seen[2], seen[3], seen[4]) < 20 {
		t.Error("too few of a kind:", seen)
	}
}

// TestP3_5_Fewest asks skies with constellations that have no piece in common, and any neighbours.
func TestP3_5_Fewest(t *testing.T) {
	d := dice(12)
	for i := range 60 {
		lands := d.from(6, 10)
		if i == 0 {
			lands = 10
		}
		s := sky(48, 1, make([][]api.BorderBox, lands)...)
		for a := range lands {
			for b := range a { // both have a place of their own, in common
				if hour := a*(a-1)/2 + b; i == 0 || d.upTo(3) < i%4 {
					s.Lands[a] = append(s.Lands[a], bx(hour, 1, 0, 1))
					s.Lands[b] = append(s.Lands[b], bx(hour, 1, 0, 1))
				}
			}
		}
		near := near(s)
		l, e := border.Tints(s)
		n, f := border.CheckTints(s, l)
		if e != api.OK || f != api.OK || !areTints(near, l) || n != countOf(l) || n != fewestOf(near) {
			t.Fatal(s, l, e, n, f)
		}
		if i == 0 && n != lands {
			t.Error(l)
		}
	}
}

// TestP3_5_First has fewest tints that are not found by giving each constellation the least one that is free.
func TestP3_5_First(t *testing.T) {
	// 0 is beside 2, 2 beside 3, and 3 beside 1: the least ones that are free would be 0 0 1 2
	s := sky(4, 1, boxes(0, 1, 0, 1), boxes(3, 1, 0, 1), boxes(1, 1, 0, 1), boxes(2, 1, 0, 1))
	s.Hours = 6
	if l, e := border.Tints(s); !slices.Equal(l, of(0, 1, 1, 0)) || e != api.OK {
		t.Error(l, e)
	}
}

func TestP3_6_Kind(t *testing.T) {
	var seen [3]int
	for _, s := range slices.Concat(skies(13, 100, 3), partedSkies(14, 50, 3)) {
		for land := range s.Lands {
			for _, b := range allBoxes(s) {
				want := kindOf(s, land, b)
				seen[want]++
				if k, e := border.Kind(s, land, b); k != want || e != api.OK {
					t.Fatal(s, land, b, k, e, "not", want)
				}
			}
		}
	}
	if min(seen[0], seen[1], seen[2]) < 1000 {
		t.Error("too few of a kind:", seen)
	}
}

// TestBoxErrors checks Kind and Give with boxes that are not valid, and constellations that are none, which are told first.
func TestBoxErrors(t *testing.T) {
	wrong := boxes(-1, 1, 0, 1, 6, 1, 0, 1, 0, 0, 0, 1, 0, 7, 0, 1, 0, 1, -1, 1, 0, 1, 3, 4, 0, 1, 1, 1, 0, 1, 0, 4, 0, 1, 2, 1)
	for _, x := range extremes {
		wrong = append(wrong, boxes(x, 1, 0, 1, 0, x, 0, 1, 0, 1, x, 1, 0, 1, 0, x, x, x, x, x)...)
	}
	for _, s := range []api.BorderSky{skyS(), skyG(), skyT()} {
		for _, b := range append(wrong, bx(0, 1, 0, 1)) {
			for _, land := range append(of(0, 2), landsThatAreNone(s)...) {
				want := api.ErrRange
				if land != 0 && land != 2 {
					want = api.ErrArg
				} else if b == bx(0, 1, 0, 1) {
					want = api.OK
				}
				list := answers(t, s, asked{land: land, box: b})
				if list[8] != want || list[10] != want { // Kind, Give
					t.Fatal(s, land, b, list)
				}
			}
		}
	}
}

func TestP3_7_Runs(t *testing.T) {
	over, round := 0, 0
	for _, s := range slices.Concat(skies(15, 400, 4), partedSkies(16, 200, 4)) {
		for land := range s.Lands {
			l, e := border.Runs(s, land)
			if want := runsOf(s, land); !slices.Equal(l, want) || e != api.OK {
				t.Fatal(s, land, l, e, "not", want)
			}
			for _, b := range l {
				switch {
				case b.Wide == s.Hours:
					round++
				case b.From+b.Wide > s.Hours:
					over++
				}
			}
		}
		for _, land := range landsThatAreNone(s) {
			if l, e := border.Runs(s, land); len(l) > 0 || e != api.ErrArg {
				t.Fatal(s, land, l, e)
			}
		}
	}
	if min(over, round) < 100 {
		t.Error("too few of a kind:", over, round)
	}
}

func TestP3_7_Give(t *testing.T) {
	for _, s := range slices.Concat(skies(17, 60, 4), partedSkies(18, 30, 4)) {
		for land := range s.Lands {
			for _, b := range allBoxes(s) {
				y, e := border.Give(s, land, b)
				if e != api.OK || y.Hours != s.Hours || y.Zones != s.Zones || len(y.Lands) != len(s.Lands) || border.CheckSky(y) != api.OK {
					t.Fatal(s, land, b, y, e)
				}
				for _, p := range spots(s) {
					want := landsAt(s, p[0], p[1])
					if inBox(s, b, p[0], p[1]) {
						want = of(land)
					}
					if l := landsAt(y, p[0], p[1]); !slices.Equal(l, want) {
						t.Fatal(s, land, b, y, p, l, "not", want)
					}
				}
				for other, l := range y.Lands {
					if !slices.Equal(l, runsOf(y, other)) {
						t.Fatal(s, land, b, other, l)
					}
				}
			}
		}
	}
}
