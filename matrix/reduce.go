package matrix

import (
	"slices"

	"gantry/api"
	"gantry/rat"
)

// A line is a row of a matrix: a factor times numbers, which are integers without a common divisor but 1. While lines are combined, these stay far shorter than fractions. If all elements are 0, so is the factor.
type line struct {
	factor  api.Rat
	numbers []api.Rat
}

// scaled returns the line that is a factor times any numbers.
func scaled(factor api.Rat, numbers []api.Rat) line {
	// All quotients so far are integers: the numbers divided by the divisor.
	quotients := make([]api.Rat, len(numbers))
	var divisor api.Rat
	for i, a := range numbers {
		if rat.Sign(a) == 0 {
			continue
		}
		if rat.Sign(divisor) == 0 {
			divisor = a
		}
		quotients[i] = rat.Div(a, divisor)
		missing := api.Rat{P: rat.Den(quotients[i])}
		if rat.Same(missing, rat.Of(1, 1)) {
			continue
		}
		divisor = rat.Div(divisor, missing)
		for k := range i + 1 {
			quotients[k] = rat.Mul(quotients[k], missing)
		}
	}
	return line{rat.Mul(factor, divisor), quotients}
}

// zero reports whether all elements are 0.
func (l line) zero() bool {
	return rat.Sign(l.factor) == 0
}

// at returns the element in a column.
func (l line) at(column int) api.Rat {
	return rat.Mul(l.factor, l.numbers[column])
}

// without returns a line less the multiple of another one that makes its element in a column 0.
func (l line) without(other line, column int) line {
	m := rat.Div(l.numbers[column], other.numbers[column])
	if rat.Sign(m) == 0 {
		return l
	}
	p, q := api.Rat{P: m.P}, api.Rat{P: rat.Den(m)}
	numbers := make([]api.Rat, len(l.numbers))
	for i, a := range l.numbers {
		numbers[i] = rat.Sub(rat.Mul(q, a), rat.Mul(p, other.numbers[i]))
	}
	return scaled(rat.Div(l.factor, q), numbers)
}

// Stairs are a matrix after exchanging rows and adding multiples of some to others, as far as pivots were looked for: the lines with a pivot come first. In the column pivots[i], the lines after the line i are 0.
type stairs struct {
	lines     []line
	pivots    []int
	exchanges int
}

// climb returns the stairs of a matrix with the pivots among its first columns.
func climb(a [][]api.Rat, columns int) stairs {
	var s stairs
	for _, row := range a {
		s.lines = append(s.lines, scaled(rat.Of(1, 1), row))
	}
	// step makes the line i, which is not 0 in a column, the next one with a pivot.
	step := func(i, column int) {
		top := len(s.pivots)
		if i != top {
			s.lines[i], s.lines[top] = s.lines[top], s.lines[i]
			s.exchanges++
		}
		below := s.lines[top+1:]
		for k := range below {
			below[k] = below[k].without(s.lines[top], column)
		}
		s.pivots = append(s.pivots, column)
	}
	for column := range columns {
		found := func(l line) bool { return rat.Sign(l.numbers[column]) != 0 }
		top := len(s.pivots)
		if i := slices.IndexFunc(s.lines[top:], found); i >= 0 {
			step(top+i, column)
		}
	}
	return s
}

// reduce returns the stairs of a matrix in which each pivot is alone in its column.
func reduce(a [][]api.Rat, columns int) stairs {
	s := climb(a, columns)
	for top, column := range slices.Backward(s.pivots) {
		for i := range top {
			s.lines[i] = s.lines[i].without(s.lines[top], column)
		}
	}
	return s
}

// share returns the element of a line in a column, divided by its pivot.
func (s stairs) share(i, column int) api.Rat {
	numbers := s.lines[i].numbers
	return rat.Div(numbers[column], numbers[s.pivots[i]])
}

// solve returns the x with a x = b whose rows at the free columns are 0.
func solve(a, b [][]api.Rat) ([][]api.Rat, api.Errno) {
	both := make([][]api.Rat, len(a))
	for i := range a {
		both[i] = slices.Concat(a[i], b[i])
	}
	s := reduce(both, width(a))
	for _, l := range s.lines[len(s.pivots):] {
		// The line says that 0 is what is left of b.
		if !l.zero() {
			return nil, api.ErrNone
		}
	}
	return made(width(a), width(b), func(column, k int) api.Rat {
		i := slices.Index(s.pivots, column)
		if i < 0 {
			return api.Rat{}
		}
		return s.share(i, width(a)+k)
	}), api.OK
}
