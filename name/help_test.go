package name_test

import (
	"slices"

	"burin/api"
	"burin/name"
)

// of is a list, sheet a sheet with two places for each meeting.
func of(x ...int) []int { return x }
func sheet(names int, covered []int, x ...int) api.NameSheet {
	out := api.NameSheet{Names: names, Covered: covered}
	for i := 0; i < len(x); i += 2 {
		out.Meets = append(out.Meets, [2]int{x[i], x[i+1]})
	}
	return out
}

// sheetS and sheetX are the sheets of the chapter's examples.
func sheetS() api.NameSheet { return sheet(3, nil, 0, 2, 0, 4, 1, 3, 3, 5) }
func sheetX() api.NameSheet { return sheet(3, nil, 0, 2, 0, 4, 1, 3, 3, 5, 1, 2) }

// fullSheet has as many names, meetings and places that are covered as there can be.
func fullSheet() api.NameSheet {
	return sheet(10, slices.Repeat(of(19), 20), slices.Repeat(of(0, 19), 40)...)
}

// longWay is a sheet of which all names cannot be set, with ways through all of them from a place to its mate, and back.
func longWay() api.NameSheet {
	s := api.NameSheet{Names: 10}
	for n := range 9 { // from 2n to 2n+2, and from 2n+3 to 2n+1
		s.Meets = append(s.Meets, [2]int{2 * n, 2*n + 3})
	}
	// from the last side 0 to the last side 1, and from the first side 1 to the first side 0
	s.Covered = of(18, 1)
	return s
}

func copyOf(s api.NameSheet) api.NameSheet {
	s.Meets, s.Covered = slices.Clone(s.Meets), slices.Clone(s.Covered)
	return s
}

// dice is a generator of numbers that are the same in each run.
type dice uint64

func (d *dice) upTo(n int) int {
	*d = *d*6364136223846793005 + 1442695040888963407
	return int(uint64(*d)>>33) % (n + 1)
}

func (d *dice) from(a, b int) int { return a + d.upTo(b-a) }

// sheet throws a valid sheet of up to most names; some of what it has is there twice, or in the other order.
func (d *dice) sheet(most int) api.NameSheet {
	s := api.NameSheet{Names: d.from(1, most)}
	last := 2*s.Names - 1
	if d.upTo(1) == 0 {
		for range d.upTo(s.Names) {
			s.Covered = append(s.Covered, d.upTo(last))
		}
	}
	for range d.upTo(min(api.MaxNameMeets, 4*s.Names)) {
		if m := [2]int{d.upTo(last), d.upTo(last)}; m[0]/2 != m[1]/2 {
			s.Meets = append(s.Meets, m)
		}
	}
	if n := len(s.Meets); n > 0 && n < api.MaxNameMeets && d.upTo(3) == 0 {
		m := s.Meets[d.upTo(n-1)]
		s.Meets = append(s.Meets, [2]int{m[1], m[0]})
	}
	return s
}

// sheets throws a number of sheets, and adds those of the examples.
func sheets(seed dice, n, most int) []api.NameSheet {
	out := []api.NameSheet{sheetS(), sheetX()}
	for range n {
		out = append(out, seed.sheet(most))
	}
	return out
}

// allSettings returns all settings of names, right or not, in lexicographic order.
func allSettings(names int) [][]int {
	list := [][]int{nil}
	for range names {
		var longer [][]int
		for _, v := range list {
			for side := -1; side <= 1; side++ {
				longer = append(longer, append(slices.Clone(v), side))
			}
		}
		list = longer
	}
	return list
}

// uses and isRight are the chapter's definitions.
func uses(v []int, place int) bool { return v[place/2] == place%2 }
func isRight(s api.NameSheet, v []int) bool {
	for _, p := range s.Covered {
		if uses(v, p) {
			return false
		}
	}
	for _, m := range s.Meets {
		if uses(v, m[0]) && uses(v, m[1]) {
			return false
		}
	}
	return true
}

// setBy returns the mask of the names that a setting sets.
func setBy(v []int) int {
	mask := 0
	for n, side := range v {
		if side != -1 {
			mask |= 1 << n
		}
	}
	return mask
}

// rightOnes returns all right settings, by the mask of the names that they set, in lexicographic order.
// It is there to check what package name finds.
func rightOnes(s api.NameSheet) map[int][][]int {
	out := map[int][][]int{}
	for _, v := range allSettings(s.Names) {
		if isRight(s, v) {
			out[setBy(v)] = append(out[setBy(v)], v)
		}
	}
	return out
}

// listOf returns the names of a mask.
func listOf(mask int) []int {
	var out []int
	for n := range 31 {
		if mask>>n&1 == 1 {
			out = append(out, n)
		}
	}
	return out
}

func ones(mask int) int { return len(listOf(mask)) }

// brightestOf and mostOf are the chapter's definitions, for the right settings of a sheet.
func brightestOf(names int, right map[int][][]int) []int {
	taken := 0
	for n := range names {
		if len(right[taken|1<<n]) > 0 {
			taken |= 1 << n
		}
	}
	return listOf(taken)
}
func mostOf(right map[int][][]int) int {
	n := 0
	for mask := range right {
		n = max(n, ones(mask))
	}
	return n
}

// ways returns from which places of the names of a mask a step leads to which ones.
func ways(s api.NameSheet, mask int) [20][20]bool {
	var out [20][20]bool
	given := func(p int) bool { return mask>>(p/2)&1 == 1 }
	other := func(p int) int { return p - p%2 + 1 - p%2 }
	for _, p := range s.Covered {
		if given(p) {
			out[p][other(p)] = true
		}
	}
	for _, m := range s.Meets {
		if given(m[0]) && given(m[1]) {
			out[m[0]][other(m[1])] = true
			out[m[1]][other(m[0])] = true
		}
	}
	return out
}

// isChain is the chapter's definition, for a list of at least one place of the names of a mask.
func isChain(s api.NameSheet, mask int, list []int) bool {
	w := ways(s, mask)
	for i, p := range list[1:] {
		if !w[list[i]][p] {
			return false
		}
	}
	other := list[0] - list[0]%2 + 1 - list[0]%2
	return list[0] == list[len(list)-1] && slices.Contains(list, other)
}

// hasChain reports whether ways lead from some place to its mate, and back.
func hasChain(s api.NameSheet, mask int) bool {
	w := ways(s, mask)
	for by := range w {
		for from := range w {
			for to := range w {
				w[from][to] = w[from][to] || w[from][by] && w[by][to]
			}
		}
	}
	for p := 0; p < 20; p += 2 {
		if w[p][p+1] && w[p+1][p] {
			return true
		}
	}
	return false
}

// canBeSet asks package name whether names can be set.
func canBeSet(s api.NameSheet, names []int) bool {
	_, e := name.Set(s, names)
	return e == api.OK
}
