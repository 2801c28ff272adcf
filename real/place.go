package real

import (
	"iter"

	"gantry/api"
	"gantry/integer"
	"gantry/poly"
	"gantry/rat"
	"gantry/sturm"
)

// A place is what is known of where a number is. If lo and hi are equal, they are the number; otherwise it is a zero of p between them, and p has different signs just above lo and at hi.
type place struct {
	p          api.Poly
	lo, hi     api.Rat
	atLo, atHi api.Rat // the values of p
	above      int     // the sign of p just above lo
}

// exactly returns the place of a rational number.
func exactly(a api.Rat) place {
	return place{lo: a, hi: a}
}

// known reports whether the number is known.
func (s place) known() bool {
	return rat.Same(s.lo, s.hi)
}

// find returns the place of a number, and whether it has one: a number that is not valid may have none.
func find(x api.Real) (place, bool) {
	if !canonical(x) || rat.Compare(x.Lo, x.Hi) > 0 {
		return place{}, false
	}
	s := place{x.P, x.Lo, x.Hi, poly.Eval(x.P, x.Lo), poly.Eval(x.P, x.Hi), above(x.P, x.Lo)}
	if rat.Sign(s.atHi) == 0 {
		return exactly(s.hi), true
	}
	return s, s.above*rat.Sign(s.atHi) < 0
}

// above returns the sign of a polynomial just above a.
func above(p api.Poly, a api.Rat) int {
	for ; len(p) > 0; p = poly.Derive(p) {
		// If this is 0, the polynomial rises or falls from 0 on.
		if sign := rat.Sign(poly.Eval(p, a)); sign != 0 {
			return sign
		}
	}
	return 0
}

// meet reports whether two polynomials have a common zero that is greater than lo and at most hi.
func meet(p, q api.Poly, lo, hi api.Rat) bool {
	return sturm.Count(poly.Gcd(p, q), lo, hi) > 0
}

// cut makes a an end of the place, if it is inside.
func (s *place) cut(a api.Rat) {
	if rat.Compare(a, s.lo) <= 0 || rat.Compare(a, s.hi) >= 0 {
		return
	}
	value := poly.Eval(s.p, a)
	switch rat.Sign(value) {
	case 0:
		*s = exactly(a)
	case s.above:
		s.lo, s.atLo = a, value
	default:
		s.hi, s.atHi = a, value
	}
}

// against returns the sign of the number less a.
func (s place) against(a api.Rat) int {
	s.cut(a)
	order := rat.Compare(s.lo, a)
	if order == 0 && !s.known() {
		return 1
	}
	return order
}

// fewest is the least number of parts into which narrow divides a place.
const fewest = 4

// smaller yields ever smaller places of the number, and how many there were before each. If the number gets known, this is the last one.
func (s place) smaller() iter.Seq2[int, place] {
	return func(yield func(int, place) bool) {
		// An end far away is then soon nearer, as the other one has the same sign.
		s.cut(api.Rat{})
		parts := integer.Of(fewest)
		for i := 0; yield(i, s) && !s.known(); i++ {
			// If the number is where it is expected, the next place is far smaller, so that the digits that are known double.
			if s.narrow(whole(parts)) {
				parts = integer.Mul(parts, parts)
			} else if integer.Compare(parts, integer.Of(fewest)) > 0 {
				parts, _ = integer.Root(parts)
			}
		}
	}
}

// narrow divides the place into parts, and cuts it on both sides of those where the number is expected. It reports whether the number is there.
func (s *place) narrow(parts api.Rat) bool {
	part := rat.Div(rat.Sub(s.hi, s.lo), parts)
	// The number is expected where the line between both values of p is 0.
	share := rat.Div(s.atLo, rat.Sub(s.atLo, s.atHi))
	expected := rat.Add(s.lo, rat.Mul(part, whole(rat.Floor(rat.Mul(share, parts)))))
	from, to := rat.Sub(expected, part), rat.Add(expected, rat.Mul(part, rat.Of(2, 1)))
	s.cut(from)
	s.cut(to)
	return rat.Compare(s.lo, from) >= 0 && rat.Compare(s.hi, to) <= 0
}

// near returns a place that is at most as wide as a positive width.
func (s place) near(width api.Rat) place {
	for _, t := range s.smaller() {
		s = t
		if rat.Compare(rat.Sub(s.hi, s.lo), width) <= 0 {
			break
		}
	}
	return s
}

// soon is the number of steps after which two numbers that are not yet apart may be equal, so that this is worth looking for.
const soon = 3

// settle returns the sign that apart returns for the first of ever smaller intervals where that is not 0. There has to be one, unless the numbers are equal.
func (s place) settle(equal func() bool, apart func(lo, hi api.Rat) int) int {
	for i, t := range s.smaller() {
		if sign := apart(t.lo, t.hi); sign != 0 {
			return sign
		}
		if i == soon && equal() {
			return 0
		}
	}
	return 0
}
