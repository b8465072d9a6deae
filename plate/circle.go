package plate

// marks tells of the places of a plate, by their indexes, which ones are meant.
type marks []bool

// wheel counts circles on plates of a size.
type wheel struct {
	size int
	seen marks
}

func newWheel(size int) wheel { return wheel{size, make(marks, size*size)} }

// circles returns how many circles a motion has: of groups that cannot be parted any more, as all places together would
// be one group, too.
func (w wheel) circles(motion int) int {
	clear(w.seen)
	n := 0
	for start := range w.seen {
		if w.seen[start] {
			continue
		}
		n++
		for i := start; !w.seen[i]; i = spotAt(i, w.size).moved(w.size, motion).index(w.size) {
			w.seen[i] = true
		}
	}
	return n
}

// different returns how many plates with so many classes are different under motions that are all that are reached.
func (w wheel) different(classes int, reached motions) int64 {
	// A motion leaves as many plates as they are as there are ways to choose a class for each of its circles, and on
	// the average over the motions each group of plates that are alike has just one of these.
	sum, n := int64(0), int64(0)
	for motion := range those(reached.has) {
		sum += power(int64(classes), w.circles(motion))
		n++
	}
	return sum / n
}

// power returns a number, multiplied by itself so often.
func power(base int64, often int) int64 {
	product := int64(1)
	for range often {
		product *= base
	}
	return product
}
