package proof_test

import (
	"slices"
	"strings"
	"testing"

	"burin/api"
	"burin/proof"
)

// readFor, backFor, mergeFor, fewestFor, commonFor and labelsFor are results of package proof that have no error.
func readFor(t *testing.T, text string, m api.ProofMarks) (string, int) {
	t.Helper()
	s, n, e := proof.Read(text, m)
	if e != api.OK {
		t.Fatal(text, m, e)
	}
	return s, n
}
func backFor(t *testing.T, text string, m api.ProofMarks) api.ProofMarks {
	t.Helper()
	back, e := proof.Back(text, m)
	if e != api.OK {
		t.Fatal(text, m, e)
	}
	return back
}
func mergeFor(t *testing.T, text string, m, n api.ProofMarks) api.ProofMarks {
	t.Helper()
	both, e := proof.Merge(text, m, n)
	if e != api.OK || proof.CheckMarks(text, both) != api.OK {
		t.Fatal(text, m, n, both, e)
	}
	return both
}
func fewestFor(t *testing.T, a, b string) int {
	t.Helper()
	n, e := proof.Fewest(a, b)
	if e != api.OK {
		t.Fatalf("%q %q: %v", a, b, e)
	}
	return n
}
func commonFor(t *testing.T, a, b string) int {
	t.Helper()
	pairs, e := proof.Common(a, b)
	n, f := proof.CheckCommon(a, b, pairs)
	if e != api.OK || f != api.OK || n != len(pairs) {
		t.Fatalf("%q %q: %v %v, %v %v", a, b, pairs, e, n, f)
	}
	return n
}
func labelsFor(t *testing.T, a, b string) ([]int, int) {
	t.Helper()
	labels, e := proof.Labels(a, b)
	n, f := proof.CheckLabels(a, b, labels)
	if e != api.OK || f != api.OK {
		t.Fatalf("%q %q: %v %v, %v", a, b, labels, e, f)
	}
	return labels, n
}

// labels throws labels of two texts: from the last match on each one is less than those of all to which it goes on.
func (d *dice) labels(a, b string) []int {
	matches := matchesOf(a, b)
	least, most := labelsOf(a, b), make([]int, len(matches))
	for i := len(matches) - 1; i >= 0; i-- {
		most[i] = 12
		for k := i + 1; k < len(matches); k++ {
			if isBefore(matches[i], matches[k]) {
				most[i] = min(most[i], most[k]-1)
			}
		}
		most[i] = d.from(least[i], most[i])
	}
	return most
}

func TestP6_8_Proved(t *testing.T) {
	d := dice(20)
	for _, x := range couples(21, 1000, 5) {
		parts := partsOf(x[0], x[1])
		_, least := labelsFor(t, x[0], x[1])
		if n := commonFor(t, x[0], x[1]); n != least {
			t.Fatalf("%q: %v, not %v", x, n, least)
		}
		for range 5 {
			labels := d.labels(x[0], x[1])
			greatest, e := proof.CheckLabels(x[0], x[1], labels)
			if e != api.OK || greatest < least {
				t.Fatalf("%q %v: %v %v", x, labels, greatest, e)
			}
			for _, part := range parts {
				if n, e := proof.CheckCommon(x[0], x[1], part); n > greatest || n != len(part) || e != api.OK {
					t.Fatalf("%q %v %v: %v %v", x, labels, part, n, e)
				}
			}
		}
	}
	for _, x := range couples(22, 400, 12) {
		labels := d.labels(x[0], x[1])
		_, least := labelsFor(t, x[0], x[1])
		if n, e := proof.CheckLabels(x[0], x[1], labels); commonFor(t, x[0], x[1]) != least || n < least || e != api.OK {
			t.Fatalf("%q %v: %v %v", x, labels, n, e)
		}
	}
}

func TestP6_9_Fewest(t *testing.T) {
	d := dice(23)
	for _, x := range couples(24, 3000, 12) {
		a, b, c := x[0], x[1], d.text(12, 4)
		n := fewestFor(t, a, b)
		if n != len(a)+len(b)-2*commonFor(t, a, b) || (n == 0) != (a == b) || n != fewestFor(t, b, a) {
			t.Fatalf("%q: %v", x, n)
		}
		for _, way := range []string{c, markedOf(a, d.marks(a, 1, 4)), ""} {
			if len(way) <= 12 && n > fewestFor(t, a, way)+fewestFor(t, way, b) {
				t.Fatalf("%q %q: %v", x, way, n)
			}
		}
	}
	for _, x := range notes(25, 5000) {
		b, n := readFor(t, x.text, x.m)
		if len(b) <= 12 && fewestFor(t, x.text, b) > n {
			t.Fatal(x, b, n)
		}
	}
	list := allTexts(3, 3)
	for _, a := range list {
		for _, b := range list {
			for _, c := range list {
				if fewestFor(t, a, c) > fewestFor(t, a, b)+fewestFor(t, b, c) || (fewestFor(t, a, b) == 0) != (a == b) {
					t.Fatalf("%q %q %q", a, b, c)
				}
			}
		}
	}
}

// checkBack checks that marks are turned back, and again.
func checkBack(t *testing.T, text string, m api.ProofMarks) {
	t.Helper()
	marked, n := readFor(t, text, m)
	back := backFor(t, text, m)
	if s, k := readFor(t, marked, back); s != text || k != n {
		t.Fatal(text, m, back, s, k)
	}
	if again := backFor(t, marked, back); !same(again, m) {
		t.Fatal(text, m, back, again)
	}
}

func TestP6_10_Back(t *testing.T) {
	seen := 0
	for _, x := range notes(26, 20000) {
		if marked, _ := readFor(t, x.text, x.m); len(marked) <= 12 {
			seen++
			checkBack(t, x.text, x.m)
		}
	}
	for _, text := range allTexts(3, 2) {
		for _, m := range allMarks(text, allTexts(2, 2)) {
			checkBack(t, text, m)
		}
	}
	for _, x := range couples(27, 500, 12) {
		m, e := proof.Marks(x[0], x[1])
		if e != api.OK {
			t.Fatal(x, e)
		}
		checkBack(t, x[0], m)
	}
	if seen < 5000 {
		t.Error("too few:", seen)
	}
}

// isMore reports whether marks strike and add no less than other ones.
func isMore(more, m api.ProofMarks) bool {
	for _, letter := range m.Struck {
		if !slices.Contains(more.Struck, letter) {
			return false
		}
	}
	for i, s := range m.Added {
		if s != "" && more.Added[i] != s {
			return false
		}
	}
	return true
}

func TestP6_11_Merged(t *testing.T) {
	d := dice(28)
	seen := 0
	for _, x := range notes(29, 20000) {
		if m := mergeFor(t, x.text, x.m, x.m); !same(m, x.m) {
			t.Fatal(x, m)
		}
		for _, m := range []api.ProofMarks{mergeFor(t, x.text, x.m, blank(x.text)), mergeFor(t, x.text, blank(x.text), x.m)} {
			if !same(m, x.m) {
				t.Fatal(x, m)
			}
		}
		n, l := d.marks(x.text, 1, 2), d.marks(x.text, 1, 1)
		one, e := proof.Merge(x.text, x.m, n)
		two, f := proof.Merge(x.text, n, x.m)
		if e != f || !same(one, two) {
			t.Fatal(x, n, one, e, two, f)
		}
		if e != api.OK {
			continue
		}
		if !isMore(one, x.m) || !isMore(one, n) {
			t.Fatal(x, n, one)
		}
		// Marks of three readers are merged in any order, too.
		all, e := proof.Merge(x.text, one, l)
		both, f := proof.Merge(x.text, n, l)
		if e != api.OK || f != api.OK {
			continue
		}
		seen++
		if again := mergeFor(t, x.text, x.m, both); !same(all, again) {
			t.Fatal(x, n, l, all, again)
		}
	}
	if seen < 1000 {
		t.Error("too few:", seen)
	}
}

// turned is a text read from its end, other is one in which each byte is another one.
func turned(s string) string {
	b := []byte(s)
	slices.Reverse(b)
	return string(b)
}
func other(s string, by byte) string {
	b := []byte(s)
	for i := range b {
		b[i] = b[i]*7 + by // 7 is odd, so that no two bytes become the same
	}
	return string(b)
}

func TestP6_12_Turned(t *testing.T) {
	d := dice(30)
	for _, x := range couples(31, 3000, 12) {
		n := fewestFor(t, x[0], x[1])
		by := byte(d.upTo(255))
		if m := fewestFor(t, turned(x[0]), turned(x[1])); m != n {
			t.Fatalf("%q: %v, not %v", x, m, n)
		}
		if m := fewestFor(t, other(x[0], by), other(x[1], by)); m != n {
			t.Fatalf("%q %v: %v, not %v", x, by, m, n)
		}
	}
}

func TestP6_13_Joined(t *testing.T) {
	d := dice(32)
	less := 0
	for _, x := range couples(33, 3000, 6) {
		kinds := d.from(1, 4)
		y := [2]string{d.text(6, kinds), d.text(6, kinds)}
		n, m := fewestFor(t, x[0], x[1]), fewestFor(t, y[0], y[1])
		both := fewestFor(t, x[0]+y[0], x[1]+y[1])
		if both > n+m {
			t.Fatalf("%q %q: %v, not %v and %v", x, y, both, n, m)
		}
		if both < n+m {
			less++
		}
		for _, same := range y {
			if fewestFor(t, x[0]+same, x[1]+same) != n || fewestFor(t, same+x[0], same+x[1]) != n {
				t.Fatalf("%q %q: not %v", x, same, n)
			}
		}
	}
	if less < 100 {
		t.Error("too few that need less together:", less)
	}
	for n := range 13 {
		for _, x := range [][2]string{{"", ""}, {"", strings.Repeat("y", 12-n)}, {strings.Repeat("y", 12-n), strings.Repeat("z", 12-n)}} {
			want := fewestFor(t, x[0], x[1])
			if fewestFor(t, long(n)+x[0], long(n)+x[1]) != want || fewestFor(t, x[0]+long(n), x[1]+long(n)) != want {
				t.Error(n, x)
			}
		}
	}
}

// faults throws how many faults two readers, and both, have found of all, and how many no one has.
func (d *dice) faults(all int) (one, two, both, none int64) {
	keen, lax := d.upTo(4), d.upTo(4)
	for range all {
		a, b := d.upTo(4) <= keen, d.upTo(4) <= lax
		switch {
		case a && b:
			one, two, both = one+1, two+1, both+1
		case a:
			one++
		case b:
			two++
		default:
			none++
		}
	}
	return one, two, both, none
}

func TestP6_14_Seen(t *testing.T) {
	d := dice(34)
	seen, wider := 0, 0
	for range 20000 {
		all := d.upTo(100)
		one, two, both, none := d.faults(all)
		den := int64(d.from(1, 50))
		num := int64(d.from(1, int(den)))
		r, e := proof.Unseen(one, two, both, api.Ratio{Num: num, Den: den})
		enough := one*den >= int64(all)*num && two*den >= int64(all)*num
		if enough {
			seen++
			if e != api.OK || none < r.Lo || none > r.Hi {
				t.Fatal(all, one, two, both, none, num, den, r, e)
			}
		}
		if e != api.OK {
			continue
		}
		den2 := int64(d.from(1, 1000))
		num2 := int64(d.from(1, int(den2)))
		if num2*den > num*den2 { // not lesser
			continue
		}
		if s, e := proof.Unseen(one, two, both, api.Ratio{Num: num2, Den: den2}); e != api.OK || s.Lo > r.Lo || s.Hi < r.Hi {
			t.Fatal(one, two, both, num, den, r, num2, den2, s, e)
		} else if s != r {
			wider++
		}
	}
	if min(seen, wider) < 1000 {
		t.Error("too few:", seen, wider)
	}
}
