package name_test

import (
	"slices"
	"testing"

	"burin/api"
	"burin/name"
)

func TestP2_8_Either(t *testing.T) {
	for _, s := range append(sheets(20, 400, 8), fullSheet(), longWay()) {
		for mask := range 1 << s.Names {
			names := listOf(mask)
			v, e := name.Set(s, names)
			l, f := name.Chain(s, names)
			switch {
			case e == api.OK && f == api.ErrNone:
				if n, g := name.CheckSetting(s, v); g != api.OK || n != len(names) || setBy(v) != mask || hasChain(s, mask) {
					t.Fatal(s, names, v, n, g)
				}
			case e == api.ErrName && f == api.OK:
				if g := name.CheckChain(s, names, l); g != api.OK {
					t.Fatal(s, names, l, g)
				}
			default:
				t.Fatal(s, names, e, f)
			}
		}
	}
}

func TestP2_9_Middle(t *testing.T) {
	for _, s := range sheets(21, 100, 4) {
		for mask, list := range rightOnes(s) {
			for i, a := range list {
				for j, b := range list[i:] {
					for _, c := range list[i+j:] {
						mid := make([]int, s.Names)
						for n := range mid { // each name that is set has one of two sides
							mid[n] = max(min(a[n], b[n]), min(a[n], c[n]), min(b[n], c[n]))
						}
						if n, e := name.CheckSetting(s, mid); n != ones(mask) || e != api.OK {
							t.Fatal(s, a, b, c, mid, n, e)
						}
					}
				}
			}
		}
	}
}

func TestP2_10_Fewer(t *testing.T) {
	for _, s := range sheets(22, 300, 6) {
		for mask := range 1 << s.Names {
			can := canBeSet(s, listOf(mask))
			l, _ := name.Chain(s, listOf(mask))
			for n := range s.Names {
				if fewer := mask &^ (1 << n); can && !canBeSet(s, listOf(fewer)) {
					t.Fatal(s, listOf(mask), listOf(fewer))
				}
				if e := name.CheckChain(s, listOf(mask|1<<n), l); !can && e != api.OK {
					t.Fatal(s, listOf(mask), n, l, e)
				}
			}
		}
	}
}

func TestP2_10_OneMore(t *testing.T) {
	d := dice(23)
	for _, s := range sheets(24, 300, 5) {
		last := 2*s.Names - 1
		met, covered := copyOf(s), copyOf(s)
		if m := [2]int{d.upTo(last), d.upTo(last)}; m[0]/2 != m[1]/2 {
			met.Meets = append(met.Meets, m)
		}
		covered.Covered = append(covered.Covered, d.upTo(last))
		for _, more := range []api.NameSheet{met, covered} {
			for _, v := range allSettings(s.Names) {
				_, e := name.CheckSetting(s, v)
				if _, f := name.CheckSetting(more, v); e != api.OK && f == api.OK {
					t.Fatal(s, more, v)
				}
			}
			for mask := range 1 << s.Names {
				l, e := name.Chain(s, listOf(mask))
				if f := name.CheckChain(more, listOf(mask), l); e == api.OK && f != api.OK {
					t.Fatal(s, more, listOf(mask), l, f)
				}
			}
		}
	}
}

func TestP2_11_Kinds(t *testing.T) {
	for _, s := range sheets(25, 300, 6) {
		for mask := range 1 << s.Names {
			names := listOf(mask)
			if !canBeSet(s, names) {
				continue
			}
			for _, n := range names {
				for p := 2 * n; p < 2*n+2; p++ {
					k, _ := name.Kind(s, names, p)
					with := copyOf(s)
					with.Covered = append(with.Covered, p)
					if (k == api.NameAlways) == canBeSet(with, names) {
						t.Fatal(s, names, p, k)
					}
					mate, _ := name.Kind(s, names, 4*n+1-p)
					if (k == api.NameNever) != (mate == api.NameAlways) {
						t.Fatal(s, names, p, k, mate)
					}
				}
			}
		}
	}
}

func TestP2_12_Bright(t *testing.T) {
	for _, s := range sheets(26, 400, 7) {
		l, _ := name.Brightest(s)
		mask := 0
		for _, n := range l {
			mask |= 1 << n
		}
		for other := range 1 << s.Names {
			if other == mask || !canBeSet(s, listOf(other)) {
				continue
			}
			if first := listOf(mask ^ other)[0]; !slices.Contains(l, first) {
				t.Fatal(s, l, listOf(other))
			}
		}
		most, _ := name.Most(s)
		if len(l) > most || canBeSet(s, listOf(1<<s.Names-1)) && (len(l) != most || most != s.Names) {
			t.Fatal(s, l, most)
		}
	}
}

// renumbered returns the sheet with other numbers of its places.
func renumbered(s api.NameSheet, to func(int) int) api.NameSheet {
	s = copyOf(s)
	for i, m := range s.Meets {
		s.Meets[i] = [2]int{to(m[0]), to(m[1])}
	}
	for i, p := range s.Covered {
		s.Covered[i] = to(p)
	}
	return s
}

func TestP2_13_SidesExchanged(t *testing.T) {
	d := dice(27)
	for _, s := range sheets(28, 300, 5) {
		turned := d.upTo(s.Names - 1)
		to := func(place int) int {
			if place/2 == turned {
				return 4*turned + 1 - place
			}
			return place
		}
		other := renumbered(s, to)
		for _, v := range allSettings(s.Names) {
			w := slices.Clone(v)
			if v[turned] != -1 {
				w[turned] = 1 - v[turned]
			}
			n, e := name.CheckSetting(s, v)
			if m, f := name.CheckSetting(other, w); m != n || e != f {
				t.Fatal(s, other, v, n, e, m, f)
			}
		}
		for mask := range 1 << s.Names {
			a, _ := name.Count(s, listOf(mask))
			if b, _ := name.Count(other, listOf(mask)); a != b {
				t.Fatal(s, other, listOf(mask), a, b)
			}
			for p := range 2 * s.Names {
				k, e := name.Kind(s, listOf(mask), p)
				if m, f := name.Kind(other, listOf(mask), to(p)); m != k || e != f {
					t.Fatal(s, other, listOf(mask), p, k, e, m, f)
				}
			}
		}
	}
}

func TestP2_13_FromTheOtherEnd(t *testing.T) {
	for _, s := range sheets(29, 300, 6) {
		back := func(n int) int { return s.Names - 1 - n }
		other := renumbered(s, func(place int) int { return 2*back(place/2) + place%2 })
		a, _ := name.Most(s)
		if b, e := name.Most(other); a != b || e != api.OK {
			t.Fatal(s, other, a, b, e)
		}
		for mask := range 1 << s.Names {
			var names []int
			for _, n := range listOf(mask) {
				names = append(names, back(n))
			}
			slices.Reverse(names)
			if canBeSet(s, listOf(mask)) != canBeSet(other, names) {
				t.Fatal(s, other, listOf(mask), names)
			}
		}
	}
}

// joined returns a sheet with the names of a at even numbers, and those of b at odd ones, of which there are as many.
func joined(a, b api.NameSheet) api.NameSheet {
	out := api.NameSheet{Names: 2 * a.Names}
	for i, s := range []api.NameSheet{a, b} {
		s = renumbered(s, func(place int) int { return 2*(2*(place/2)+i) + place%2 })
		out.Meets = append(out.Meets, s.Meets...)
		out.Covered = append(out.Covered, s.Covered...)
	}
	return out
}

func TestP2_14_Apart(t *testing.T) {
	list := sheets(30, 600, 5)
	pairs := 0
	for i, a := range list[1:] {
		b := list[i]
		if a.Names != b.Names {
			continue
		}
		pairs++
		both := joined(a, b)
		var even, odd []int
		for n := range a.Names {
			even, odd = append(even, 2*n), append(odd, 2*n+1)
		}
		all := listOf(1<<both.Names - 1)
		if canBeSet(both, all) != (canBeSet(both, even) && canBeSet(both, odd)) {
			t.Fatal(a, b)
		}
		n, _ := name.Count(both, even)
		m, _ := name.Count(both, odd)
		if nm, e := name.Count(both, all); nm != n*m || e != api.OK {
			t.Fatal(a, b, n, m, nm, e)
		}
		// a group has the settings that its sheet has alone
		if k, _ := name.Count(a, listOf(1<<a.Names-1)); k != n {
			t.Fatal(a, b, k, n)
		}
	}
	if pairs < 50 {
		t.Error("too few pairs:", pairs)
	}
}
