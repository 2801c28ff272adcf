package simplex

import (
	"slices"

	"gantry/api"
	"gantry/rat"
)

// A row says that a factor times its variable is the sum of the variables of the columns, each of them times a number. The factor is positive; it and the numbers are integers without a common divisor but 1. While rows are combined, these stay far shorter than fractions.
type row struct {
	variable int
	factor   api.Rat
	numbers  []api.Rat
}

// scaled returns the row with any numbers, and any positive factor.
func scaled(variable int, factor api.Rat, numbers []api.Rat) row {
	// All quotients so far are integers: the factor and the numbers divided by the divisor.
	one := rat.Of(1, 1)
	divisor, multiple := factor, one
	quotients := make([]api.Rat, len(numbers))
	for i, a := range numbers {
		if rat.Sign(a) == 0 {
			continue
		}
		p, q := parts(rat.Div(a, divisor))
		quotients[i] = p
		if rat.Same(q, one) {
			continue
		}
		divisor, multiple = rat.Div(divisor, q), rat.Mul(multiple, q)
		for k := range i {
			quotients[k] = rat.Mul(quotients[k], q)
		}
	}
	return row{variable, multiple, quotients}
}

// sign returns the sign of the number in a column.
func (r row) sign(column int) int {
	return rat.Sign(r.numbers[column])
}

// terms returns how many columns the variable depends on.
func (r row) terms() int {
	n := 0
	for column := range r.numbers {
		if r.sign(column) != 0 {
			n++
		}
	}
	return n
}

// at returns the value of the variable, if those of the columns are given.
func (r row) at(values []api.Rat) api.Rat {
	return rat.Div(rat.Dot(r.numbers, values), r.factor)
}

// solved returns the row for the variable of a column, for which that of r comes into the column. The number there is not 0.
func (r row) solved(column, variable int) row {
	factor, numbers := r.numbers[column], slices.Clone(r.numbers)
	numbers[column] = rat.Neg(r.factor)
	if rat.Sign(factor) < 0 {
		return row{variable, rat.Neg(factor), numbers}
	}
	return row{variable, factor, negated(numbers)}
}

// with returns a row with what another one says about the variable of a column put in.
func (r row) with(other row, column int) row {
	m := rat.Div(r.numbers[column], other.factor)
	if rat.Sign(m) == 0 {
		return r
	}
	p, q := parts(m)
	numbers := make([]api.Rat, len(r.numbers))
	for k, b := range other.numbers {
		if k != column {
			numbers[k] = rat.Mul(q, r.numbers[k])
		}
		if rat.Sign(b) != 0 {
			numbers[k] = rat.Add(numbers[k], rat.Mul(p, b))
		}
	}
	return scaled(r.variable, rat.Mul(q, r.factor), numbers)
}

// parts returns the numerator and the denominator of a number.
func parts(a api.Rat) (api.Rat, api.Rat) {
	return api.Rat{P: a.P}, api.Rat{P: rat.Den(a)}
}

// negated returns numbers with the other sign.
func negated(numbers []api.Rat) []api.Rat {
	l := make([]api.Rat, len(numbers))
	for i, a := range numbers {
		l[i] = rat.Neg(a)
	}
	return l
}
