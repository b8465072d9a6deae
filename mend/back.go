package mend

// even lets all places be as they are on an even block, without blows.
func (b *block) even() {
	clear(b.now[:])
	clear(b.blows[:])
	clear(b.standing)
}

// makeNeutral makes an even block the neutral plate: it takes one blow at each place back, and hammers the block flat,
// until that leaves it as it was, as it does once so much has come up that each place was hit. Then the block comes back;
// and since nothing but blows, done or taken back, leads to it from an even one, it changes no plate that comes back.
func (b *block) makeNeutral() {
	for {
		before := b.now
		for s := range b.spots() {
			b.hit(s, -1)
		}
		b.hammer()
		if b.now == before {
			return
		}
	}
}

// count returns how many flat plates come back, by an even block. Blows, done or taken back, lead from each plate, of any
// dents at all, to just one of them. So they are as many as the determinant of what the blows take away.
func (b *block) count() int64 {
	var rows []numbers
	for s := range b.spots() {
		rows = append(rows, reduced(b.taken(s), rows))
	}
	last := len(rows) - 1
	return rows[last][last]
}

// taken returns what a blow at a place takes away from each place. It needs an even block, and leaves an even one.
func (b *block) taken(s spot) numbers {
	b.hit(s, -1)
	taken := b.now
	b.even()
	return taken
}

// reduced returns a row with 0 in the first columns, as many as there are rows above it, which are reduced themselves.
// What it has in another column is the determinant of all these rows, as they were, in the first columns and that one:
// a whole number, so that nothing is left by the divisions.
func reduced(row numbers, above []numbers) numbers {
	divisor := int64(1)
	for k, other := range above {
		pivot, head := other[k], row[k]
		for i := range row {
			row[i] = (row[i]*pivot - other[i]*head) / divisor
		}
		divisor = pivot
	}
	return row
}
