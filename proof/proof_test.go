package proof_test

import (
	"slices"
	"strings"
	"testing"

	"burin/api"
	"burin/proof"
)

// asked is what functions are asked.
type asked struct {
	text           string
	m, n           api.ProofMarks
	a, b           string
	pairs          [][2]int
	labels         []int
	one, two, both int64
	share          api.Ratio
}

// right is something that no function has an error for but Clash, as both marks do not contradict each other.
func right() asked {
	return asked{
		"atlas", marksA(), marksB(), "engrave", "graven", two(2, 0, 3, 1, 4, 2), of(1, 2, 1, 2, 3, 4, 5),
		8, 6, 4, api.Ratio{Num: 1, Den: 2},
	}
}

// The indexes of the errors that answers returns.
const (
	forCheckMarks = iota
	forRead
	forBack
	forMerge
	forClash
	forFewest
	forMarks
	forCheckCommon
	forCommon
	forCheckLabels
	forLabels
	forUnseen
	functions
)

// ofMarks are the functions that have the error of CheckMarks, ofTexts those that have the error of two texts.
func ofMarks() []int { return of(forCheckMarks, forRead, forBack, forMerge, forClash) }
func ofTexts() []int {
	return of(forFewest, forMarks, forCheckCommon, forCommon, forCheckLabels, forLabels)
}

// answers calls each function, and returns the errors. It reports other results that are not zero, together with an error.
func answers(t *testing.T, a asked) [functions]api.Errno {
	t.Helper()
	var e [functions]api.Errno
	var zero [functions]bool
	e[forCheckMarks], zero[forCheckMarks] = proof.CheckMarks(a.text, a.m), true
	s, n, err := proof.Read(a.text, a.m)
	e[forRead], zero[forRead] = err, s == "" && n == 0
	m, err := proof.Back(a.text, a.m)
	e[forBack], zero[forBack] = err, isZero(m)
	m, err = proof.Merge(a.text, a.m, a.n)
	e[forMerge], zero[forMerge] = err, isZero(m)
	n, err = proof.Clash(a.text, a.m, a.n)
	e[forClash], zero[forClash] = err, n == 0
	n, err = proof.Fewest(a.a, a.b)
	e[forFewest], zero[forFewest] = err, n == 0
	m, err = proof.Marks(a.a, a.b)
	e[forMarks], zero[forMarks] = err, isZero(m)
	n, err = proof.CheckCommon(a.a, a.b, a.pairs)
	e[forCheckCommon], zero[forCheckCommon] = err, n == 0
	pairs, err := proof.Common(a.a, a.b)
	e[forCommon], zero[forCommon] = err, len(pairs) == 0
	n, err = proof.CheckLabels(a.a, a.b, a.labels)
	e[forCheckLabels], zero[forCheckLabels] = err, n == 0
	labels, err := proof.Labels(a.a, a.b)
	e[forLabels], zero[forLabels] = err, len(labels) == 0
	r, err := proof.Unseen(a.one, a.two, a.both, a.share)
	e[forUnseen], zero[forUnseen] = err, r == api.Range{}
	for i := range e {
		if e[i] != api.OK && !zero[i] {
			t.Error("a result with an error:", i, e[i], a)
		}
	}
	return e
}

// expect checks that functions return an error, and all others the errors of what is right.
func expect(t *testing.T, a asked, errno api.Errno, which ...int) {
	t.Helper()
	for i, e := range answers(t, a) {
		want := api.OK
		if i == forClash {
			want = api.ErrNone
		}
		if slices.Contains(which, i) {
			want = errno
		}
		if e != want {
			t.Error("function", i, e, "not", want, a)
		}
	}
}

func TestRight(t *testing.T) {
	expect(t, right(), api.OK)
}

// wrong is a text with what are no marks of it, with the error.
type wrong struct {
	why  string
	text string
	m    api.ProofMarks
	e    api.Errno
}

func wrongMarks() []wrong {
	empty := func(n int) []string { return make([]string, n) }
	full := marks(of(0, 5, 11), slices.Repeat([]string{long(12)}, 13)...)
	return []wrong{
		{"a text of 13", long(13), marks(nil, empty(14)...), api.ErrLong},
		{"a text of 13, too few strings", long(13), marks(nil, empty(13)...), api.ErrLong},
		{"a text of 13, all else wrong", long(13), marks(of(13, -1), long(13)), api.ErrLong},
		{"a text of 13, of 7 characters", "éééééés", marks(nil, empty(14)...), api.ErrLong},
		{"no strings", "atlas", api.ProofMarks{}, api.ErrEqual},
		{"no strings of no text", "", api.ProofMarks{}, api.ErrEqual},
		{"two strings of no text", "", marks(nil, "", ""), api.ErrEqual},
		{"a string less", "atlas", marks(nil, empty(5)...), api.ErrEqual},
		{"a string more", "atlas", marks(nil, empty(7)...), api.ErrEqual},
		{"a string for each character", "éa", marks(nil, empty(3)...), api.ErrEqual},
		{"a string less, one too long", "s", marks(nil, long(13)), api.ErrEqual},
		{"a string less, a letter too great", "s", marks(of(1), ""), api.ErrEqual},
		{"a string less of 12", long(12), marks(nil, empty(12)...), api.ErrEqual},
		{"a string more of 12", long(12), marks(nil, empty(14)...), api.ErrEqual},
		{"the first string too long", "s", marks(nil, long(13), ""), api.ErrLong},
		{"the last string too long", "s", marks(nil, "", long(13)), api.ErrLong},
		{"a string of no text too long", "", marks(nil, long(13)), api.ErrLong},
		{"a string of 7 characters", "s", marks(nil, "", "éééééés"), api.ErrLong},
		{"a string too long, a letter too great", "s", marks(of(1), "", long(13)), api.ErrLong},
		{"a letter of no text", "", marks(of(0), ""), api.ErrRange},
		{"a letter below 0", "atlas", marks(of(-1), empty(6)...), api.ErrRange},
		{"a letter that is the end", "atlas", marks(of(5), empty(6)...), api.ErrRange},
		{"the last letter too great", "atlas", marks(of(0, 4, 5), empty(6)...), api.ErrRange},
		{"a letter of a character", "é", marks(of(2), empty(3)...), api.ErrRange},
		{"letters that decrease", "atlas", marks(of(1, 0), empty(6)...), api.ErrRange},
		{"a letter twice", "atlas", marks(of(1, 1), empty(6)...), api.ErrRange},
		{"a letter that comes again", "atlas", marks(of(1, 2, 1), empty(6)...), api.ErrRange},
		{"all letters, and one more", "st", marks(of(0, 1, 2), empty(3)...), api.ErrRange},
		{"a letter too great of 12", long(12), marks(of(12), full.Added...), api.ErrRange},
	}
}

func TestP6_1_CheckMarks(t *testing.T) {
	empty := func(n int) []string { return make([]string, n) }
	for i, x := range []noted{
		{"atlas", marksA()}, {"atlas", marksB()}, {"atlas", marksC()}, {"s", marksD()}, {"atlas", blank("atlas")},
		{"", marks(nil, "")}, {"", marks(of(), long(12))}, {"s", marks(of(0), long(12), long(12))},
		{"éa", marks(of(1), empty(4)...)}, {"\xff\x00", marks(of(0, 1), "\x80", "é", "")},
		{long(12), marks(nil, empty(13)...)},
		{long(12), marks(of(0, 1, 2, 3, 4, 5, 6, 7, 8, 9, 10, 11), slices.Repeat([]string{long(12)}, 13)...)},
	} {
		if e := proof.CheckMarks(x.text, x.m); e != api.OK {
			t.Error(i, e)
		}
	}
	for _, x := range wrongMarks() {
		if e := proof.CheckMarks(x.text, x.m); e != x.e || e != errorOf(x.text, x.m) {
			t.Error(x.why, e, "not", x.e)
		}
	}
	for _, x := range extremes {
		for _, struck := range [][]int{of(x), of(0, x), of(x, 0), of(x, x), of(0, 1, 2, 3, 4, x)} {
			if e := proof.CheckMarks("atlas", marks(struck, empty(6)...)); e != api.ErrRange {
				t.Error(struck, e)
			}
		}
	}
}

// TestP6_1_EachNumber checks for all numbers about the limits which ones are valid.
func TestP6_1_EachNumber(t *testing.T) {
	for n := range 40 {
		for strings := range 40 {
			m := marks(nil, make([]string, strings)...)
			if e := proof.CheckMarks(long(n), m); e != errorOf(long(n), m) {
				t.Error(n, strings, e)
			}
		}
		for place := range 3 {
			m := marks(nil, "", "", "")
			m.Added[place] = long(n)
			if e := proof.CheckMarks("st", m); (e == api.OK) != (n <= 12) || n > 12 && e != api.ErrLong {
				t.Error(n, place, e)
			}
		}
	}
	for x := -3; x < 16; x++ {
		for y := -3; y < 16; y++ {
			valid := 0 <= x && x < y && y < 12
			if e := proof.CheckMarks(long(12), marks(of(x, y), make([]string, 13)...)); (e == api.OK) != valid || !valid && e != api.ErrRange {
				t.Error(x, y, e)
			}
		}
	}
}

// spoil changes something of marks, so that they are mostly wrong ones.
func (d *dice) spoil(m api.ProofMarks) api.ProofMarks {
	m = copyOf(m)
	if len(m.Added) == 0 { // spoiled already
		return m
	}
	change := []func(){
		func() { m.Added = append(m.Added, "") },
		func() { m.Added = m.Added[1:] },
		func() { m.Added[d.upTo(len(m.Added)-1)] = long(d.from(11, 14)) },
		func() { m.Struck = append(m.Struck, d.from(-1, 13)) },
		func() { m.Struck = append(of(d.from(-1, 13)), m.Struck...) },
	}
	change[d.upTo(len(change)-1)]()
	return m
}

func TestP6_1_CheckAnyMarks(t *testing.T) {
	d := dice(1)
	var seen [30]int
	for _, x := range notes(2, 20000) {
		for _, m := range []api.ProofMarks{x.m, d.spoil(x.m)} {
			want := errorOf(x.text, m)
			if e := proof.CheckMarks(x.text, m); e != want {
				t.Fatal(x.text, m, e, "not", want)
			}
			seen[want]++
		}
	}
	if min(seen[api.OK], seen[api.ErrEqual], seen[api.ErrLong], seen[api.ErrRange]) < 1000 {
		t.Error("too few of a kind:", seen)
	}
}

// TestMarksFirst checks that the error of marks comes before all others, that of the first ones before that of the second.
func TestMarksFirst(t *testing.T) {
	for _, x := range wrongMarks() {
		a := right()
		a.text, a.m, a.n = x.text, x.m, x.m
		expect(t, a, x.e, ofMarks()...)
		a.n = blank(x.text)
		expect(t, a, x.e, ofMarks()...)
		a.n = api.ProofMarks{}
		expect(t, a, x.e, ofMarks()...)
		if len(x.text) > 12 {
			continue
		}
		a.m, a.n = blank(x.text), x.m
		expect(t, a, x.e, forMerge, forClash)
		for _, y := range wrongMarks() { // the second marks are of the same text, even if no one of the errors is
			a.text, a.m, a.n = x.text, x.m, y.m
			expect(t, a, x.e, ofMarks()...)
		}
	}
}

func TestP6_2_Read(t *testing.T) {
	for i, x := range []struct {
		text   string
		m      api.ProofMarks
		marked string
		n      int
	}{
		{"atlas", marksA(), "atlant", 3},
		{"atlas", marksB(), "Atlas", 2},
		{"atlas", marksC(), "atlasx", 1},
		{"s", marksD(), "n", 2},
		{"s", marks(of(0), "", "n"), "n", 2},
		{"atlas", blank("atlas"), "atlas", 0},
		{"", marks(nil, ""), "", 0},
		{"", marks(nil, "ab"), "ab", 2},
		{"map", marks(of(0, 1, 2), "", "", "", ""), "", 3},
		{"map", marks(nil, "1", "22", "333", "4444"), "1m22a333p4444", 10},
		{"map", marks(of(1), "1", "22", "333", "4444"), "1m22333p4444", 11},
		{"é", marks(of(0), "", "\xff", ""), "\xff\xa9", 2},
		{"s", marks(nil, long(12), long(12)), long(12) + "s" + long(12), 24},
		{long(12), marks(nil, slices.Repeat([]string{long(12)}, 13)...), long(168), 156},
		{long(12), marks(of(0, 1, 2, 3, 4, 5, 6, 7, 8, 9, 10, 11), slices.Repeat([]string{long(12)}, 13)...), long(156), 168},
	} {
		if s, n, e := proof.Read(x.text, x.m); s != x.marked || n != x.n || e != api.OK {
			t.Error(i, s, n, e, "not", x.marked, x.n)
		}
	}
	for _, x := range notes(3, 20000) {
		if s, n, e := proof.Read(x.text, x.m); s != markedOf(x.text, x.m) || n != numberOf(x.m) || e != api.OK {
			t.Fatal(x, s, n, e, "not", markedOf(x.text, x.m), numberOf(x.m))
		}
	}
}

func TestP6_2_Back(t *testing.T) {
	for i, x := range []struct {
		text    string
		m, back api.ProofMarks
	}{
		{"atlas", marksA(), marks(of(4, 5), "", "", "", "", "s", "", "")},
		{"atlas", marksB(), marks(of(0), "", "a", "", "", "", "")},
		{"atlas", marksC(), marks(of(5), "", "", "", "", "", "", "")},
		{"s", marksD(), marks(of(0), "", "s")},
		{"s", marks(of(0), "", "n"), marks(of(0), "s", "")},
		{"s", marks(of(0), "a", "b"), marks(of(0, 1), "", "s", "")},
		{"atlas", blank("atlas"), blank("atlas")},
		{"", marks(nil, ""), marks(nil, "")},
		{"", marks(nil, "ab"), marks(of(0, 1), "", "", "")},
		{"map", marks(of(0, 1, 2), "", "", "", ""), marks(nil, "map")},
		{"map", marks(of(0, 1), "c", "u", "", ""), marks(of(0, 1), "", "m", "a", "")},
		{"map", marks(of(0, 2), "", "", "", ""), marks(nil, "m", "p")},
		{"map", marks(of(0, 1), "", "", "", "e"), marks(of(1), "ma", "", "")},
		{"é", marks(of(0), "", "", ""), marks(nil, "\xc3", "")},
		{long(12), marks(of(0), "y", "", "", "", "", "", "", "", "", "", "", "", ""), marks(of(0), "", "x", "", "", "", "", "", "", "", "", "", "", "")},
	} {
		if m, e := proof.Back(x.text, x.m); !same(m, x.back) || e != api.OK {
			t.Error(i, m, e, "not", x.back)
		}
	}
	var seen [2]int
	for _, x := range notes(4, 20000) {
		m, e := proof.Back(x.text, x.m)
		if len(markedOf(x.text, x.m)) > 12 {
			seen[0]++
			if !isZero(m) || e != api.ErrLong {
				t.Fatal(x, m, e)
			}
		} else {
			seen[1]++
			if !same(m, backOf(x.text, x.m)) || e != api.OK {
				t.Fatal(x, m, e, "not", backOf(x.text, x.m))
			}
		}
	}
	if min(seen[0], seen[1]) < 1000 {
		t.Error("too few of a kind:", seen)
	}
}

// TestP6_2_BackTooLong checks Back of marked texts of 12 letters, and of one more.
func TestP6_2_BackTooLong(t *testing.T) {
	for n := range 13 {
		text := long(n)
		for more := range 13 {
			m := blank(text)
			m.Added[more%(n+1)] = long(more)
			want := api.OK
			if n+more > 12 {
				want = api.ErrLong
			}
			back, e := proof.Back(text, m)
			if e != want || (e == api.OK) != (len(back.Added) == n+more+1) {
				t.Error(n, more, back, e)
			}
			if n > 0 && more > 0 { // a letter that is struck does not count
				m.Struck = of(n - 1)
				want = api.OK
				if n+more > 13 {
					want = api.ErrLong
				}
				if back, e := proof.Back(text, m); e != want || (e == api.OK) != (len(back.Added) == n+more) {
					t.Error(n, more, back, e)
				}
			}
		}
	}
	if m, e := proof.Back("s", marks(of(1), long(12), "")); !isZero(m) || e != api.ErrRange {
		t.Error(m, e)
	}
}

// checkMerged checks Merge and Clash.
func checkMerged(t *testing.T, text string, m, n api.ProofMarks, at int, want api.ProofMarks) {
	t.Helper()
	merge, clash := api.ErrProof, api.OK
	if at < 0 {
		at, merge, clash = 0, api.OK, api.ErrNone
	}
	if x, e := proof.Merge(text, m, n); !same(x, want) || e != merge {
		t.Fatal(text, m, n, x, e, "not", want, merge)
	}
	if x, e := proof.Clash(text, m, n); x != at || e != clash {
		t.Fatal(text, m, n, x, e, "not", at, clash)
	}
}

func TestP6_3_MergeAndClash(t *testing.T) {
	for _, x := range []struct {
		m, n, merged api.ProofMarks
		at           int
	}{
		{marksA(), marksB(), marks(of(0, 4), "A", "", "", "", "", "nt"), -1},
		{marksB(), marksA(), marks(of(0, 4), "A", "", "", "", "", "nt"), -1},
		{marksA(), marksA(), marksA(), -1},
		{marksA(), blank("atlas"), marksA(), -1},
		{blank("atlas"), blank("atlas"), blank("atlas"), -1},
		{marksA(), marksC(), api.ProofMarks{}, 5},
		{marksB(), marks(nil, "B", "", "", "", "", ""), api.ProofMarks{}, 0},
		{marks(of(1, 3), "", "", "x", "", "", ""), marks(of(3, 4), "", "", "x", "", "y", ""), marks(of(1, 3, 4), "", "", "x", "", "y", ""), -1},
		{marks(of(3, 4), "", "b", "", "", "", ""), marks(of(0, 1), "", "", "", "a", "", ""), marks(of(0, 1, 3, 4), "", "b", "", "a", "", ""), -1},
		{marks(nil, "", "b", "", "c", "", ""), marks(nil, "", "bc", "", "d", "", ""), api.ProofMarks{}, 1},
		{marks(nil, "", "bc", "", "c", "", ""), marks(nil, "", "b", "", "d", "", ""), api.ProofMarks{}, 1},
		{marks(nil, "", "b", "", "", "c", ""), marks(nil, "", "b", "x", "", "C", ""), api.ProofMarks{}, 4},
		{marks(nil, "a", "", "", "", "", "c"), marks(nil, "", "b", "", "", "", "d"), api.ProofMarks{}, 5},
		{marks(nil, "é", "", "", "", "", ""), marks(nil, "e", "", "", "", "", ""), api.ProofMarks{}, 0},
	} {
		checkMerged(t, "atlas", x.m, x.n, x.at, x.merged)
		checkMerged(t, "atlas", x.n, x.m, x.at, x.merged)
	}
	checkMerged(t, "", marks(nil, ""), marks(nil, "ab"), -1, marks(nil, "ab"))
	checkMerged(t, "", marks(nil, "ba"), marks(nil, "ab"), 0, api.ProofMarks{})
	all := marks(of(0, 1, 2, 3, 4, 5, 6, 7, 8, 9, 10, 11), slices.Repeat([]string{long(12)}, 13)...)
	checkMerged(t, long(12), all, blank(long(12)), -1, all)
	checkMerged(t, long(12), all, marks(nil, append(make([]string, 12), long(11))...), 12, api.ProofMarks{})
}

func TestP6_3_EachMarks(t *testing.T) {
	d := dice(5)
	var seen [14]int
	check := func(text string, m, n api.ProofMarks) {
		t.Helper()
		at := clashOf(m, n)
		want := api.ProofMarks{}
		if at < 0 {
			want = mergedOf(m, n)
		}
		checkMerged(t, text, m, n, at, want)
		seen[at+1]++
	}
	for _, x := range notes(6, 20000) {
		check(x.text, x.m, d.marks(x.text, d.from(1, 2), d.from(1, 2)))
	}
	list := allMarks("st", []string{"", "a", "ab"})
	for _, m := range list {
		for _, n := range list {
			check("st", m, n)
		}
	}
	if slices.Min(seen[:]) < 10 || seen[0] < 1000 {
		t.Error("too few of a kind:", seen)
	}
}

// TestTexts checks that texts of 13 letters have an error, before all others, and those of 12 letters none.
func TestTexts(t *testing.T) {
	for _, x := range [][2]string{{long(13), ""}, {"", long(13)}, {long(13), long(13)}, {long(14), "graven"}, {"éééééés", "x"}, {long(12), strings.Repeat("y", 20)}} {
		a := right()
		a.a, a.b = x[0], x[1]
		expect(t, a, api.ErrLong, ofTexts()...)
		a.pairs, a.labels = two(-1, 0, 0, 99), of(0, 99)
		expect(t, a, api.ErrLong, ofTexts()...)
		a.pairs, a.labels = nil, nil
		expect(t, a, api.ErrLong, ofTexts()...)
	}
	a := right()
	for _, x := range [][2]string{{long(12), ""}, {"", long(12)}, {"yyyyyyyyyyyy", long(12)}, {"éééééé", "x"}} {
		a.a, a.b, a.pairs, a.labels = x[0], x[1], nil, nil
		expect(t, a, api.OK)
	}
}

// checkCouple checks what is found about two texts.
func checkCouple(t *testing.T, a, b string) {
	t.Helper()
	want := fewestOf(a, b)
	if n, e := proof.Fewest(a, b); n != want || e != api.OK {
		t.Fatalf("%q %q: %v %v, not %v", a, b, n, e, want)
	}
	m, e := proof.Marks(a, b)
	if e != api.OK || errorOf(a, m) != api.OK || markedOf(a, m) != b || numberOf(m) != want {
		t.Fatalf("%q %q: %v %v", a, b, m, e)
	}
	pairs, e := proof.Common(a, b)
	if e != api.OK || partError(a, b, pairs) != api.OK || len(pairs) != longestOf(a, b) {
		t.Fatalf("%q %q: %v %v", a, b, pairs, e)
	}
	labels, e := proof.Labels(a, b)
	if e != api.OK || !slices.Equal(labels, labelsOf(a, b)) {
		t.Fatalf("%q %q: %v %v, not %v", a, b, labels, e, labelsOf(a, b))
	}
}

func TestP6_4_FewestAndMarks(t *testing.T) {
	for i, x := range []struct {
		a, b string
		n    int
	}{
		{"engrave", "graven", 3},
		{"plate", "plate", 0},
		{"", "ab", 2},
		{"ab", "", 2},
		{"", "", 0},
		{"ab", "ba", 2},
		{"aaa", "aa", 1},
		{"abc", "xyz", 6},
		{"abc", "ABC", 6},
		{"abcabc", "cba", 5},
		{"xaxbxc", "abc", 3},
		{"é", "è", 2},
		{long(12), "x", 11},
		{long(12), long(12), 0},
		{long(12), "yyyyyyyyyyyy", 24},
		{long(12), "", 12},
		{"", long(12), 12},
		{"abcdefabcdef", "fedcbafedcba", 18},
	} {
		if n, e := proof.Fewest(x.a, x.b); n != x.n || e != api.OK {
			t.Error(i, n, e, "not", x.n)
		}
		m, e := proof.Marks(x.a, x.b)
		if s, n, f := proof.Read(x.a, m); e != api.OK || s != x.b || n != x.n || f != api.OK {
			t.Error(i, m, e, s, n, f, "not", x.n)
		}
	}
	for _, x := range couples(7, 2000, 12) {
		checkCouple(t, x[0], x[1])
	}
	list := allTexts(4, 3)
	for _, a := range list {
		for _, b := range list {
			checkCouple(t, a, b)
		}
	}
}

// TestP6_4_AllMarks looks for the fewest marks among all that there are.
func TestP6_4_AllMarks(t *testing.T) {
	for _, x := range []struct {
		texts  []string
		longer int
	}{{allTexts(3, 2), 2}, {allTexts(2, 3), 2}, {allTexts(2, 2), 4}} {
		strings := allTexts(x.longer, 2)
		for _, a := range x.texts {
			least := map[string]int{}
			for _, m := range allMarks(a, strings) {
				b := markedOf(a, m)
				if n, ok := least[b]; !ok || numberOf(m) < n {
					least[b] = numberOf(m)
				}
			}
			for _, b := range strings {
				if n, e := proof.Fewest(a, b); n != least[b] || e != api.OK {
					t.Fatalf("%q %q: %v %v, not %v", a, b, n, e, least[b])
				}
			}
		}
	}
}

func TestP6_5_CheckCommon(t *testing.T) {
	for i, x := range []struct {
		pairs [][2]int
		n     int
		e     api.Errno
	}{
		{two(2, 0, 3, 1, 4, 2), 3, api.OK},
		{two(2, 0, 3, 1, 4, 2, 5, 3, 6, 4), 5, api.OK},
		{two(0, 4, 1, 5), 2, api.OK},
		{two(0, 4), 1, api.OK},
		{two(6, 4), 1, api.OK},
		{two(1, 5), 1, api.OK},
		{nil, 0, api.OK},
		{two(0, 0), 0, api.ErrEqual},
		{two(2, 0, 6, 5), 0, api.ErrEqual},
		{two(3, 1, 2, 0), 0, api.ErrSum},
		{two(3, 1, 3, 1), 0, api.ErrSum},
		{two(0, 4, 6, 4), 0, api.ErrSum},          // the same letter of the second text
		{two(1, 5, 6, 4), 0, api.ErrSum},          // a lesser letter of the second text
		{two(2, 0, 4, 2, 3, 1), 0, api.ErrSum},    // the last pair alone
		{two(2, 0, 3, 1, 2, 0), 0, api.ErrSum},    // the first pair again
		{two(6, 4, 2, 0, 3, 1), 0, api.ErrSum},    // the first pair alone
		{two(7, 0), 0, api.ErrRange},              // a letter that is the end of the first text
		{two(0, 6), 0, api.ErrRange},              // a letter that is the end of the second text
		{two(6, 4, 7, 5), 0, api.ErrRange},        // the last pair
		{two(-1, 0), 0, api.ErrRange},             // a letter below 0
		{two(0, -1), 0, api.ErrRange},             // a letter below 0
		{two(0, 0, 7, 0), 0, api.ErrRange},        // before ErrEqual
		{two(3, 1, 2, 0, 0, -1), 0, api.ErrRange}, // before ErrSum
		{two(3, 1, 2, 0, 0, 0), 0, api.ErrEqual},  // before ErrSum
	} {
		if n, e := proof.CheckCommon("engrave", "graven", x.pairs); n != x.n || e != x.e {
			t.Error(i, n, e, "not", x.n, x.e)
		}
	}
	for _, x := range extremes {
		for _, pairs := range [][][2]int{two(x, 0), two(2, x), two(x, x), two(2, 0, x, 1), two(2, 0, 3, x), two(x, 0, 3, 1)} {
			if n, e := proof.CheckCommon("engrave", "graven", pairs); n != 0 || e != api.ErrRange {
				t.Error(pairs, n, e)
			}
		}
	}
	for _, x := range [][2]string{{"", ""}, {"", "a"}, {"a", ""}} {
		if n, e := proof.CheckCommon(x[0], x[1], two(0, 0)); n != 0 || e != api.ErrRange {
			t.Error(x, n, e)
		}
		if n, e := proof.CheckCommon(x[0], x[1], nil); n != 0 || e != api.OK {
			t.Error(x, n, e)
		}
	}
}

func TestP6_5_CheckAnyCommon(t *testing.T) {
	d := dice(8)
	var seen [30]int
	for _, x := range couples(9, 6000, 12) {
		a, b := x[0], x[1]
		var pairs [][2]int
		for _, m := range matchesOf(a, b) {
			if n := len(pairs); d.upTo(2) == 0 && (n == 0 || isBefore(pairs[n-1], m)) {
				pairs = append(pairs, m)
			}
		}
		for range 4 {
			want, n := partError(a, b, pairs), len(pairs)
			if want != api.OK {
				n = 0
			}
			if m, e := proof.CheckCommon(a, b, pairs); m != n || e != want {
				t.Fatalf("%q %q %v: %v %v, not %v %v", a, b, pairs, m, e, n, want)
			}
			seen[want]++
			if len(pairs) == 0 {
				break
			}
			i := d.upTo(len(pairs) - 1)
			pairs[i][d.upTo(1)] += d.from(-1, 1)
			if d.upTo(1) == 0 {
				pairs[i] = pairs[d.upTo(len(pairs)-1)]
			}
		}
	}
	if min(seen[api.OK], seen[api.ErrRange], seen[api.ErrEqual], seen[api.ErrSum]) < 300 {
		t.Error("too few of a kind:", seen)
	}
}

func TestP6_5_Common(t *testing.T) {
	for i, x := range []struct {
		a, b string
		n    int
	}{
		{"engrave", "graven", 5}, {"plate", "plate", 5}, {"", "ab", 0}, {"ab", "ba", 1}, {"abc", "xyz", 0}, {"", "", 0},
		{"aaa", "aa", 2}, {long(12), long(12), 12}, {long(12), "yyyyyyyyyyyx", 1}, {"abcdefabcdef", "fedcbafedcba", 3},
		{"xabcde", "abcdex", 5}, {"abxcd", "cdxab", 2},
	} {
		pairs, e := proof.Common(x.a, x.b)
		if len(pairs) != x.n || e != api.OK || partError(x.a, x.b, pairs) != api.OK {
			t.Error(i, pairs, e, "not", x.n)
		}
	}
	for _, x := range couples(10, 2000, 5) {
		most := 0
		for _, part := range partsOf(x[0], x[1]) {
			most = max(most, len(part))
		}
		if pairs, e := proof.Common(x[0], x[1]); len(pairs) != most || e != api.OK || partError(x[0], x[1], pairs) != api.OK {
			t.Fatalf("%q: %v %v, not %v", x, pairs, e, most)
		}
	}
}

func TestP6_6_CheckLabels(t *testing.T) {
	for i, x := range []struct {
		a, b   string
		labels []int
		n      int
		e      api.Errno
	}{
		{"engrave", "graven", of(1, 2, 1, 2, 3, 4, 5), 5, api.OK},
		{"engrave", "graven", of(1, 12, 1, 2, 3, 4, 5), 12, api.OK},
		{"engrave", "graven", of(6, 7, 2, 3, 4, 5, 6), 7, api.OK},
		{"engrave", "graven", of(8, 9, 8, 9, 10, 11, 12), 12, api.OK},
		{"engrave", "graven", of(1, 1, 1, 2, 3, 4, 5), 0, api.ErrSum},
		{"engrave", "graven", of(2, 1, 1, 2, 3, 4, 5), 0, api.ErrSum},
		{"engrave", "graven", of(1, 2, 1, 2, 3, 4, 4), 0, api.ErrSum},
		{"engrave", "graven", of(5, 6, 5, 1, 6, 7, 8), 0, api.ErrSum},
		{"engrave", "graven", of(1, 1, 0, 2, 3, 4, 5), 0, api.ErrRange},
		{"engrave", "graven", of(0, 1, 1, 2, 3, 4, 5), 0, api.ErrRange},
		{"engrave", "graven", of(1, 13, 1, 2, 3, 4, 5), 0, api.ErrRange},
		{"engrave", "graven", of(1, 2, 1, 2, 3, 4, 13), 0, api.ErrRange},
		{"engrave", "graven", of(1, 2, 1, 2, 3, 4), 0, api.ErrMany},
		{"engrave", "graven", of(1, 2, 1, 2, 3, 4, 5, 6), 0, api.ErrMany},
		{"engrave", "graven", of(0, 2, 1, 2, 3, 4, 13, 1), 0, api.ErrMany},
		{"engrave", "graven", nil, 0, api.ErrMany},
		{"abc", "xyz", nil, 0, api.OK},
		{"", "", nil, 0, api.OK},
		{"", "ab", of(1), 0, api.ErrMany},
		{"a", "a", of(1), 1, api.OK},
		{"a", "a", of(12), 12, api.OK},
		{"ab", "ba", of(7, 3), 7, api.OK},
		{"aa", "a", of(2, 1), 2, api.OK}, // neither has both letters greater
		{"aa", "aa", of(1, 1, 1, 2), 2, api.OK},
		{"aa", "aa", of(2, 9, 9, 2), 0, api.ErrSum},
	} {
		if n, e := proof.CheckLabels(x.a, x.b, x.labels); n != x.n || e != x.e {
			t.Error(i, n, e, "not", x.n, x.e)
		}
	}
	for _, x := range extremes {
		for i := range 7 {
			labels := of(1, 2, 1, 2, 3, 4, 5)
			labels[i] = x
			if n, e := proof.CheckLabels("engrave", "graven", labels); n != 0 || e != api.ErrRange {
				t.Error(x, i, n, e)
			}
		}
	}
	for x := -3; x < 16; x++ {
		if n, e := proof.CheckLabels("a", "a", of(x)); (e == api.OK) != (1 <= x && x <= 12 && n == x) || e != api.OK && e != api.ErrRange {
			t.Error(x, n, e)
		}
	}
}

func TestP6_6_CheckAnyLabels(t *testing.T) {
	d := dice(11)
	var seen [30]int
	check := func(a, b string, labels []int) {
		t.Helper()
		want, n := labelError(a, b, labels), 0
		if want == api.OK && len(labels) > 0 {
			n = slices.Max(labels)
		}
		if m, e := proof.CheckLabels(a, b, labels); m != n || e != want {
			t.Fatalf("%q %q %v: %v %v, not %v %v", a, b, labels, m, e, n, want)
		}
		seen[want]++
	}
	for _, x := range couples(12, 400, 12) {
		labels := labelsOf(x[0], x[1])
		check(x[0], x[1], labels)
		check(x[0], x[1], append(labels, 1))
		if len(labels) == 0 {
			continue
		}
		check(x[0], x[1], labels[:d.upTo(len(labels)-1)])
		for range 10 {
			other, i := slices.Clone(labels), d.upTo(len(labels)-1)
			other[i] += d.from(-1, 1)
			check(x[0], x[1], other)
			for i := range other {
				other[i] += 12 - slices.Max(labels) // as great as they can be
			}
			check(x[0], x[1], other)
		}
	}
	for _, x := range [][2]string{{"ab", "ab"}, {"aa", "aa"}, {"ab", "ba"}, {"aba", "ab"}} { // all small numbers
		for code := range 5 * 5 * 5 * 5 {
			labels := of(code%5, code/5%5, code/25%5, code/125%5)
			check(x[0], x[1], labels[:len(matchesOf(x[0], x[1]))])
		}
	}
	if min(seen[api.OK], seen[api.ErrMany], seen[api.ErrRange], seen[api.ErrSum]) < 300 {
		t.Error("too few of a kind:", seen)
	}
}

func TestP6_6_Labels(t *testing.T) {
	for i, x := range []struct {
		a, b   string
		labels []int
	}{
		{"engrave", "graven", of(1, 2, 1, 2, 3, 4, 5)},
		{"plate", "plate", of(1, 2, 3, 4, 5)},
		{"", "ab", nil},
		{"", "", nil},
		{"abc", "xyz", nil},
		{"ab", "ba", of(1, 1)},
		{"aaa", "aa", of(1, 1, 1, 2, 1, 2)},
		{"abcabc", "cba", of(1, 1, 1, 2, 2, 1)},
		{long(12), "x", slices.Repeat(of(1), 12)},
		{"x", long(12), slices.Repeat(of(1), 12)},
		{"abcdefghijkl", "abcdefghijkl", of(1, 2, 3, 4, 5, 6, 7, 8, 9, 10, 11, 12)},
	} {
		if l, e := proof.Labels(x.a, x.b); !slices.Equal(l, x.labels) || e != api.OK {
			t.Error(i, l, e, "not", x.labels)
		}
	}
	l, e := proof.Labels(long(12), long(12))
	if len(l) != 144 || slices.Max(l) != 12 || e != api.OK {
		t.Error(l, e)
	}
	for _, x := range couples(13, 1000, 5) {
		matches := matchesOf(x[0], x[1])
		want := make([]int, len(matches))
		for _, part := range partsOf(x[0], x[1]) {
			if n := len(part); n > 0 {
				i := slices.Index(matches, part[n-1])
				want[i] = max(want[i], n)
			}
		}
		if l, e := proof.Labels(x[0], x[1]); !slices.Equal(l, want) || e != api.OK {
			t.Fatalf("%q: %v %v, not %v", x, l, e, want)
		}
	}
}

func TestP6_7_Unseen(t *testing.T) {
	ratio := func(num, den int64) api.Ratio { return api.Ratio{Num: num, Den: den} }
	for i, x := range []struct {
		one, two, both int64
		share          api.Ratio
		hi             int64
		e              api.Errno
	}{
		{8, 6, 4, ratio(1, 2), 2, api.OK},
		{8, 6, 4, ratio(2, 4), 2, api.OK}, // not in least terms
		{6, 8, 4, ratio(1, 2), 2, api.OK},
		{8, 6, 4, ratio(3, 5), 0, api.OK},
		{8, 6, 6, ratio(3, 4), 0, api.OK},
		{8, 8, 8, ratio(1, 1), 0, api.OK},
		{8, 8, 8, ratio(1000, 1000), 0, api.OK},
		{0, 0, 0, ratio(1, 1), 0, api.OK},
		{0, 0, 0, ratio(1, 1000), 0, api.OK},
		{1000, 1000, 1000, ratio(1, 1), 0, api.OK},
		{1000, 1000, 1000, ratio(1, 1000), 999000, api.OK},
		{1000, 1000, 0, ratio(1, 1000), 998000, api.OK},
		{1000, 1000, 0, ratio(1, 2), 0, api.OK},
		{10, 10, 10, ratio(2, 3), 5, api.OK},
		{10, 11, 10, ratio(2, 3), 4, api.OK},
		{8, 6, 1, ratio(1, 1), 0, api.ErrSum},
		{8, 6, 4, ratio(2, 3), 0, api.ErrSum},
		{0, 1, 0, ratio(1, 1000), 0, api.ErrSum},
		{1, 1000, 1, ratio(1, 999), 0, api.ErrSum},
		{1, 1000, 1, ratio(1, 1000), 0, api.OK},
		{1, 1000, 0, ratio(1, 1000), 0, api.ErrSum},
		{1000, 1000, 0, ratio(501, 1000), 0, api.ErrSum},
	} {
		if r, e := proof.Unseen(x.one, x.two, x.both, x.share); r != (api.Range{Lo: 0, Hi: x.hi}) || e != x.e {
			t.Error(i, r, e, "not", x.hi, x.e)
		}
	}
}

func TestP6_7_EachNumber(t *testing.T) {
	var seen [30]int
	check := func(one, two, both, num, den int64) {
		t.Helper()
		r, want := api.Range{}, api.ErrArg
		share := api.Ratio{Num: num, Den: den}
		switch {
		case min(one, two, both) < 0 || max(one, two, both) > 1000 || both > one || both > two:
		case den < 1 || den > 1000 || num < 1 || num > den:
			want = api.ErrRange
		default:
			r, want = unseenOf(one, two, both, share)
		}
		if s, e := proof.Unseen(one, two, both, share); s != r || e != want {
			t.Fatal(one, two, both, share, s, e, "not", r, want)
		}
		seen[want]++
	}
	for code := range 9 * 9 * 9 * 7 * 7 {
		one, two, both := code%9-1, code/9%9-1, code/81%9-1
		check(int64(one), int64(two), int64(both), int64(code/729%7-1), int64(code/729/7-1))
	}
	d := dice(14)
	near := func() int64 { return int64([]int{0, d.upTo(9), d.upTo(1000), d.from(995, 1001)}[d.upTo(3)]) }
	for range 20000 {
		one, two := near(), near()
		check(one, two, min(one, two, near()), max(1, near()), near())
		check(near(), near(), near(), near(), near())
	}
	for _, x := range append(extremes, -1, 1001) {
		n := int64(x)
		check(n, 6, 4, 1, 2)
		check(8, n, 4, 1, 2)
		check(8, 6, n, 1, 2)
		check(8, 6, 4, n, 2)
		check(8, 6, 4, 1, n)
		check(8, 6, 4, n, n)
		check(n, n, n, 1, 2)
		check(n, n, n, n, n) // ErrArg before ErrRange
		check(8, 6, 7, 1, n)
		check(8, 6, 1, n, 1) // ErrRange before ErrSum
	}
	if min(seen[api.OK], seen[api.ErrArg], seen[api.ErrRange], seen[api.ErrSum]) < 1000 {
		t.Error("too few of a kind:", seen)
	}
}
