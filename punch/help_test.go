package punch_test

import (
	"math"
	"slices"

	"burin/api"
)

// extremes are numbers of which no one is a wear, a Weight, a star, or how many there are.
var extremes = []int{math.MinInt, math.MinInt + 1, -1 << 40, -1 << 32, 1 << 32, 1 << 40, math.MaxInt - 1, math.MaxInt}

// of is a list, job a job: three numbers for each star.
func of(x ...int) []int { return x }
func job(punches, life int, x ...int) api.PunchJob {
	j := api.PunchJob{Punches: punches, Life: life}
	for i := 0; i < len(x); i += 3 {
		j.Stars = append(j.Stars, star(x[i], x[i+1], x[i+2]))
	}
	return j
}
func star(from, to, weight int) api.PunchStar {
	return api.PunchStar{From: from, To: to, Weight: int64(weight)}
}

// jobJ and jobK are the jobs J and K of the chapter's examples.
func jobJ() api.PunchJob { return job(1, 5, 0, 1, 5, 0, 0, 3, 1, 3, 4, 2, 3, 2, 3, 3, 6) }
func jobK() api.PunchJob { return with(jobJ(), 2) }

// full is as great a job as there can be, of stars that are all alike.
func full() api.PunchJob { return job(5, 20, slices.Repeat(of(0, 19, 100), 16)...) }

// with is a job with so many punches.
func with(j api.PunchJob, punches int) api.PunchJob {
	j.Punches = punches
	return j
}

// copyOf is a job with Stars of its own, and withStar one that has another star in place of one, or behind all.
func copyOf(j api.PunchJob) api.PunchJob {
	j.Stars = slices.Clone(j.Stars)
	return j
}
func withStar(j api.PunchJob, i int, s api.PunchStar) api.PunchJob {
	j = copyOf(j)
	if i == len(j.Stars) {
		j.Stars = append(j.Stars, s)
	}
	j.Stars[i] = s
	return j
}

// part is the job with just the stars of which a mask has the bits.
func part(j api.PunchJob, mask int) api.PunchJob {
	out := api.PunchJob{Punches: j.Punches, Life: j.Life}
	for _, i := range starsOf(mask) {
		out.Stars = append(out.Stars, j.Stars[i])
	}
	return out
}
func starsOf(mask int) []int {
	var out []int
	for i := range 16 {
		if mask>>i&1 == 1 {
			out = append(out, i)
		}
	}
	return out
}
func maskOf(stars []int) int {
	mask := 0
	for _, i := range stars {
		mask |= 1 << i
	}
	return mask
}

// dice is a generator of numbers that are the same in each run.
type dice uint64

func (d *dice) upTo(n int) int {
	*d = *d*6364136223846793005 + 1442695040888963407
	return int(uint64(*d)>>33) % (n + 1)
}

func (d *dice) from(a, b int) int { return a + d.upTo(b-a) }

// star throws a star of a job with a Life, one that may be struck at so many wears at most.
func (d *dice) star(life, wide, weight int) api.PunchStar {
	from := d.upTo(life - 1)
	return star(from, min(life-1, from+d.upTo(wide-1)), d.from(1, weight))
}

// job throws a job; about half of those that are thrown have a plan.
func (d *dice) job(punches, life, stars int) api.PunchJob {
	j := api.PunchJob{Punches: d.from(1, punches), Life: d.from(1, life)}
	wide, weight := d.from(1, life), []int{1, 2, 4, 100}[d.upTo(3)]
	for range d.upTo(stars) {
		j.Stars = append(j.Stars, d.star(j.Life, wide, weight))
	}
	return j
}

// jobs throws a number of small jobs, and adds those of the examples.
func jobs(seed dice, n int) []api.PunchJob {
	out := []api.PunchJob{jobJ(), jobK(), job(1, 1), job(3, 4)}
	for range n {
		out = append(out, seed.job(3, 5, 6))
	}
	return out
}

// greatJobs throws a number of jobs with as many stars as there can be, and adds the full one.
func greatJobs(seed dice, n int) []api.PunchJob {
	out := []api.PunchJob{full(), with(full(), 1)}
	for len(out) < n {
		if j := seed.job(5, 20, 16); len(j.Stars) > 10 {
			out = append(out, j)
		}
	}
	return out
}

// chains throws a number of jobs in which many stars have to move on so that one more can be struck: nearly as many stars
// as there are strikes, each with one wear or a few, and the ones that come last have the least wears.
func chains(seed dice, n int) []api.PunchJob {
	var out []api.PunchJob
	for range n {
		j := api.PunchJob{Punches: seed.from(1, 3)}
		j.Life = min(20, 17/j.Punches+seed.upTo(1))
		for from := 0; len(j.Stars) < 13; from++ {
			for range j.Punches {
				from := min(from, j.Life-1)
				j.Stars = append(j.Stars, star(from, min(j.Life-1, from+seed.upTo(2)), seed.from(1, 2)))
			}
		}
		for len(j.Stars) < 16 {
			j.Stars = append(j.Stars, seed.star(min(3, j.Life), 2, 2))
		}
		out = append(out, j)
	}
	return out
}

// allJobs returns all jobs with so many punches, a Life, and up to so many stars of Weight 1.
func allJobs(punches, life, stars int) []api.PunchJob {
	list := []api.PunchJob{job(punches, life)}
	longest := list
	for range stars {
		var longer []api.PunchJob
		for _, j := range longest {
			for from := range life {
				for to := from; to < life; to++ {
					longer = append(longer, withStar(j, len(j.Stars), star(from, to, 1)))
				}
			}
		}
		list, longest = append(list, longer...), longer
	}
	return list
}

// allPlans and all that follows are the chapter's definitions.
// They are there to check what package punch finds.

// allPlans returns all plans, in lexicographic order.
func allPlans(j api.PunchJob) [][]int {
	list := [][]int{nil}
	for _, s := range j.Stars {
		var longer [][]int
		for _, plan := range list {
			for wear := s.From; wear <= s.To; wear++ {
				if countAt(plan, wear) < j.Punches {
					longer = append(longer, append(slices.Clone(plan), wear))
				}
			}
		}
		list = longer
	}
	return list
}

// countAt returns how many stars there are at a wear.
func countAt(plan []int, wear int) int {
	n := 0
	for _, w := range plan {
		if w == wear {
			n++
		}
	}
	return n
}

// hasPlan tells whether there is a plan. At one wear after another each punch takes that of the stars which may be struck
// from there on that has the least To: if there is a plan, there is one in which it does.
func hasPlan(j api.PunchJob) bool {
	left := slices.Clone(j.Stars)
	for wear := range j.Life {
		for range j.Punches {
			best := -1
			for i, s := range left {
				if s.From <= wear && s.To >= wear && (best < 0 || s.To < left[best].To) {
					best = i
				}
			}
			if best >= 0 {
				left = slices.Delete(left, best, best+1)
			}
		}
	}
	return len(left) == 0
}

// struck tells whether the stars of a mask can be struck.
func struck(j api.PunchJob, mask int) bool { return hasPlan(part(j, mask)) }

// weightOf returns the sum of the Weights of the stars of a mask.
func weightOf(j api.PunchJob, mask int) int64 {
	sum := int64(0)
	for _, s := range part(j, mask).Stars {
		sum += s.Weight
	}
	return sum
}

// firstPlanOf looks for the first plan: a wear for one star after another.
func firstPlanOf(j api.PunchJob) ([]int, bool) {
	j = copyOf(j)
	var plan []int
	if !hasPlan(j) {
		return nil, false
	}
	for i := range j.Stars {
		wear := slices.Min(timesOf(j, i))
		plan = append(plan, wear)
		j.Stars[i].From, j.Stars[i].To = wear, wear
	}
	return plan, true
}

// timesOf returns the wears at which a star is struck in some plan.
func timesOf(j api.PunchJob, i int) []int {
	var out []int
	s := j.Stars[i]
	for wear := s.From; wear <= s.To; wear++ {
		if hasPlan(withStar(j, i, star(wear, wear, 1))) {
			out = append(out, wear)
		}
	}
	return out
}

// isPlan tells the error of what may be a plan.
func isPlan(j api.PunchJob, plan []int) api.Errno {
	if len(plan) != len(j.Stars) {
		return api.ErrEqual
	}
	for i, s := range j.Stars {
		if plan[i] < s.From || plan[i] > s.To {
			return api.ErrPunch
		}
	}
	for _, wear := range plan {
		if countAt(plan, wear) > j.Punches {
			return api.ErrFull
		}
	}
	return api.OK
}

// starsIn returns how many stars a window has.
func starsIn(j api.PunchJob, from, to int) int {
	n := 0
	for _, s := range j.Stars {
		if s.From >= from && s.To <= to {
			n++
		}
	}
	return n
}

// isNarrow tells whether a window is too narrow.
func isNarrow(j api.PunchJob, from, to int) bool {
	return starsIn(j, from, to) > j.Punches*(to-from+1)
}

// windowsOf returns the ends of all windows.
func windowsOf(j api.PunchJob) [][2]int {
	var out [][2]int
	for from := range j.Life {
		for to := from; to < j.Life; to++ {
			out = append(out, [2]int{from, to})
		}
	}
	return out
}

// fewestOf looks for the least number of punches with which there is a plan.
func fewestOf(j api.PunchJob) int {
	punches := 0
	for !hasPlan(with(j, punches)) {
		punches++
	}
	return punches
}

// chosenOf returns the chosen stars: each time the star that comes next is looked for among all that have not come.
func chosenOf(j api.PunchJob) []int {
	taken, came := 0, 0
	for range j.Stars {
		next := -1
		for i, s := range j.Stars {
			if came>>i&1 == 0 && (next < 0 || s.Weight > j.Stars[next].Weight) {
				next = i
			}
		}
		came |= 1 << next
		if struck(j, taken|1<<next) {
			taken |= 1 << next
		}
	}
	return starsOf(taken)
}

// heaviestOf returns all heaviest choices, by their masks, and what they weigh.
func heaviestOf(j api.PunchJob) ([]int, int64) {
	var masks []int
	most := int64(-1)
	for mask := range 1 << len(j.Stars) {
		weight := weightOf(j, mask)
		if weight < most || !struck(j, mask) {
			continue
		}
		if weight > most {
			masks, most = nil, weight
		}
		masks = append(masks, mask)
	}
	return masks, most
}

// kindOf tells in how many of the heaviest choices a star is.
func kindOf(masks []int, i int) int {
	n := 0
	for _, mask := range masks {
		n += mask >> i & 1
	}
	switch n {
	case 0:
		return api.PunchNever
	case len(masks):
		return api.PunchAlways
	}
	return api.PunchMay
}
