package integer

import "math/bits"

// common returns the greatest common divisor of two numbers, which are given by their digits.
// It does the steps of Euclid's algorithm, many of them at once where the most significant digits suffice to know the quotients (Lehmer's algorithm).
func common(a, b []int) []int {
	if compare(a, b) < 0 {
		a, b = b, a
	}
	for len(a) > fitting {
		if len(b) == 0 {
			return a
		}
		known := stepsOf(a, b)
		if known.none() {
			_, rest := divide(a, b)
			a, b = b, rest
			continue
		}
		a, b = combine(known.p, a, known.q, b), combine(known.r, a, known.s, b)
	}
	x, y := value(a), value(b)
	for y > 0 {
		x, y = y, x%y
	}
	return split(x)
}

// steps are some steps of Euclid's algorithm, which replace a and b by p * a + q * b and r * a + s * b.
type steps struct {
	p, q, r, s int
}

// none reports whether there are no steps.
func (t steps) none() bool {
	return t.q == 0
}

// stepsOf returns the steps for a and b that are known from their most significant digits. a has at least three digits, and is not less than b.
//
// The factors stay less than Base: the last one of a step, times the y by which the step divides, is at most the first x, which is less than the square of Base; and it is less than this y, or the two quotients would differ.
func stepsOf(a, b []int) steps {
	x, y := leading(a, b)
	t := steps{1, 0, 0, 1}
	for {
		// What a and b have become, divided by what leading divided them by, is between x + p and x + q, and between y + r and y + s.
		if y+t.r == 0 || y+t.s == 0 {
			return t
		}
		quotient := (x + t.p) / (y + t.r)
		if quotient != (x+t.q)/(y+t.s) {
			return t
		}
		t = steps{t.r, t.s, t.p - quotient*t.r, t.q - quotient*t.s}
		x, y = y, x-quotient*y
	}
}

// leading returns a and b divided by the same number, rounded down, such that they are less than the square of Base, and a is at least a half of it.
func leading(a, b []int) (int, int) {
	by := place(a, len(a)-1) + 1
	quotient := func(c []int) int {
		high, low := top(c, len(a)-1)
		q, _ := bits.Div64(high, low, by)
		return int(q)
	}
	return quotient(a), quotient(b)
}
