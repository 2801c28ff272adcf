package sturm

import (
	"iter"

	"gantry/api"
	"gantry/poly"
	"gantry/rat"
)

// middle returns the number halfway from lo to hi.
func middle(lo, hi api.Rat) api.Rat {
	return rat.Mul(rat.Add(lo, hi), rat.Of(1, 2))
}

// Bound returns a number that is greater than the absolute value of each zero.
func Bound(p api.Poly) api.Rat {
	var greatest api.Rat
	for k := range poly.Degree(p) {
		a := absolute(rat.Div(p[k], last(p)))
		if rat.Compare(a, greatest) > 0 {
			greatest = a
		}
	}
	return rat.Add(greatest, rat.Of(1, 1))
}

// An end of an interval is a number, and the changes of a chain there.
type end struct {
	x       api.Rat
	changes int
}

// ends returns two integers between which all zeros of a chain are: as many as between -bound and bound.
func ends(chain []api.Poly, bound api.Rat) (end, end) {
	at := func(x api.Rat) end { return end{x, Changes(chain, x)} }
	all := at(rat.Neg(bound)).changes - at(bound).changes
	// The bound can be as great as the product of the zeros, so far away that halving is too slow.
	for x := rat.Of(2, 1); ; x = rat.Mul(x, x) {
		lo, hi := at(rat.Neg(x)), at(x)
		if lo.changes-hi.changes == all {
			return lo, hi
		}
	}
}

// intervals yields an isolating interval for each zero of a chain that is greater than lo and at most hi, in increasing order.
func intervals(chain []api.Poly, lo, hi end) iter.Seq[[2]api.Rat] {
	return func(yield func([2]api.Rat) bool) {
		// The intervals that are left begin with lo; their upper ends are in falling order.
		left := []end{hi}
		for lo := lo; len(left) > 0; {
			hi := left[len(left)-1]
			zeros := lo.changes - hi.changes
			if zeros > 1 {
				x := middle(lo.x, hi.x)
				left = append(left, end{x, Changes(chain, x)})
				continue
			}
			if zeros == 1 && !yield([2]api.Rat{lo.x, hi.x}) {
				return
			}
			lo, left = hi, left[:len(left)-1]
		}
	}
}

// Isolate returns an interval (open below, closed above) for each zero, in order.
func Isolate(p api.Poly) ([][2]api.Rat, api.Errno) {
	switch {
	case len(p) == 0 || !poly.Valid(p):
		// The search for the zeros of what is no polynomial might not end.
		return nil, api.ErrArg
	case poly.Degree(p) > api.MaxDegree:
		return nil, api.ErrLimit
	}
	chain := signs(p)
	lo, hi := ends(chain, Bound(p))
	var l [][2]api.Rat
	for interval := range intervals(chain, lo, hi) {
		l = append(l, interval)
	}
	return l, api.OK
}

// crosses reports whether a polynomial has different signs at two numbers, so that it has a zero in between.
func crosses(p api.Poly, l [2]api.Rat) bool {
	return sign(p, l[0])*sign(p, l[1]) < 0
}

// Halve returns the half of an interval that has the zero.
func Halve(p api.Poly, l [2]api.Rat) [2]api.Rat {
	mid := middle(l[0], l[1])
	lower, upper := [2]api.Rat{l[0], mid}, [2]api.Rat{mid, l[1]}
	// In most cases, three values tell where the zero is.
	switch {
	case crosses(p, lower):
		return lower
	case crosses(p, upper):
		return upper
	case Count(p, lower[0], lower[1]) > 0:
		return lower
	}
	return upper
}

// odd returns a polynomial that has the sign of p where p is not 0, and whose zeros are those at which p changes its sign, each once.
func odd(p api.Poly) api.Poly {
	left := p
	// part takes out of what is left each factor once, and returns their product.
	part := func() api.Poly {
		factors := poly.Free(left)
		left, _ = poly.Div(left, factors)
		return factors
	}
	// Of each two parts, the second one has the factors that occur at least twice in what was left.
	once := api.Poly{rat.Of(1, 1)}
	for poly.Degree(left) > 0 {
		all, several := part(), part()
		single, _ := poly.Div(all, several)
		once = poly.Mul(once, single)
	}
	return poly.Mul(once, left)
}

// Stays reports whether a polynomial is not negative from lo to hi.
func Stays(p api.Poly, lo, hi api.Rat) bool {
	order := rat.Compare(lo, hi)
	switch {
	case len(p) == 0 || order > 0:
		return true
	case order == 0:
		return sign(p, lo) >= 0
	}
	q := odd(p)
	zeros := Count(q, lo, hi)
	if sign(q, hi) == 0 {
		// At hi, the sign may change.
		zeros--
	}
	return zeros == 0 && sign(q, middle(lo, hi)) > 0
}
