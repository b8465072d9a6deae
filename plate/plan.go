package plate

// draft is a plan with the motion that it makes.
type draft struct {
	moves []int
	made  int
}

// then returns the draft with one move more. Several drafts may go on from one, so that it must not write behind it.
func (d draft) then(kind int) draft {
	moves := append(d.moves[:len(d.moves):len(d.moves)], kind)
	return draft{moves, after(d.made, kind)}
}

// shortest returns the first of the shortest plans that make a motion, in new memory, and whether there is one.
func shortest(kinds []int, motion int) ([]int, bool) {
	var found draft // the empty plan, which makes motion 0
	// Drafts wait by their length, those of one length in lexicographic order, so that the first draft that makes a
	// motion is the first of the shortest ones that do; others that make it need not wait.
	waiting := []draft{found}
	made := motions{true}
search:
	for found.made != motion {
		if len(waiting) == 0 {
			return nil, false
		}
		d := waiting[0]
		waiting = waiting[1:]
		for _, kind := range kinds {
			next := d.then(kind)
			if next.made == motion {
				found = next
				break search
			}
			if !made.has(next.made) {
				made[next.made] = true
				waiting = append(waiting, next)
			}
		}
	}
	plan := make([]int, len(found.moves))
	copy(plan, found.moves)
	return plan, true
}
