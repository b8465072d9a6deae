package drift

import (
	"cmp"

	"burin/api"
)

// fraction returns num by den in least terms; den is above 0.
func fraction(num, den int64) api.Ratio {
	d := divisor(num, den)
	return api.Ratio{Num: num / d, Den: den / d}
}

// divisor returns the greatest common divisor of two numbers, of which b is above 0.
func divisor(a, b int64) int64 {
	if a < 0 {
		a = -a
	}
	for a != 0 {
		a, b = b%a, a
	}
	return b
}

// compare returns a number below 0 if a is less than b, 0 if they are equal, and one above 0 otherwise.
func compare(a, b api.Ratio) int {
	return cmp.Compare(a.Num*b.Den, b.Num*a.Den)
}

// plus returns base and rate times years.
func plus(base, rate api.Ratio, years int64) api.Ratio {
	return fraction(base.Num*rate.Den+rate.Num*years*base.Den, base.Den*rate.Den)
}

// whole returns a whole number as a fraction.
func whole(n int64) api.Ratio {
	return api.Ratio{Num: n, Den: 1}
}
