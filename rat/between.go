package rat

import (
	"gantry/api"
	"gantry/integer"
)

// Between returns the number with the least denominator, and of these the least absolute value, from lo to hi.
func Between(lo, hi api.Rat) (api.Rat, api.Errno) {
	switch {
	case Compare(lo, hi) > 0:
		return api.Rat{}, api.ErrArg
	case Sign(lo) > 0:
		return least(lo, hi), api.OK
	case Sign(hi) < 0:
		return Neg(least(Neg(hi), Neg(lo))), api.OK
	}
	return api.Rat{}, api.OK
}

// least is Between for positive numbers in order.
func least(lo, hi api.Rat) api.Rat {
	one := integer.Of(1)
	// find returns the numerator and the denominator of the number from a / b to c / d for which both are least.
	var find func(a, b, c, d api.Int) (api.Int, api.Int)
	find = func(a, b, c, d api.Int) (api.Int, api.Int) {
		floor, rest := integer.Div(a, b)
		if integer.Sign(rest) == 0 {
			return floor, one
		}
		last, part := integer.Div(c, d)
		if integer.Compare(floor, last) < 0 {
			return integer.Add(floor, one), one
		}
		// No integer is in between. Without the floor, which both have, the inverse of the least number is the least one between the inverses.
		q, p := find(d, part, b, rest)
		return integer.Add(integer.Mul(floor, q), p), q
	}
	return lowest(find(lo.P, Den(lo), hi.P, Den(hi)))
}
