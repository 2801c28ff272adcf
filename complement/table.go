package complement

import (
	"gantry/api"
	"gantry/rat"
)

// A table is a tableau. Variables are numbered: w[0] to w[n-1], then z[0] to z[n-1], and then z0.
//
// Of each row, it has the key times a positive number that makes the elements in the columns of w integers without a common divisor but 1: all that is asked for are quotients of elements of the same row. The key tells the elements in the other columns, as a row is the sum of the first rows, each times the element in the column of its w.
type table struct {
	side    column
	columns []column
	basic   []int
	keys    [][]api.Rat
}

// A column has the elements of the first rows, times a positive factor that makes them integers.
type column struct {
	factor  api.Rat
	numbers []api.Rat
}

// whole returns the column with some elements.
func whole(elements []api.Rat) column {
	factor := rat.Of(1, 1)
	for _, a := range elements {
		factor = rat.Mul(factor, denominator(rat.Mul(factor, a)))
	}
	numbers := make([]api.Rat, len(elements))
	for i, a := range elements {
		numbers[i] = rat.Mul(factor, a)
	}
	return column{factor, numbers}
}

// tabled returns the first tableau of a problem.
func tabled(m [][]api.Rat, q []api.Rat) *table {
	n := len(q)
	t := &table{side: whole(q)}
	minus := make([]api.Rat, n)
	for i, row := range unit(n) {
		t.columns = append(t.columns, whole(row))
		t.basic = append(t.basic, i)
		t.keys = append(t.keys, append([]api.Rat{t.side.numbers[i]}, row...))
		minus[i] = rat.Of(-1, 1)
	}
	for k := range n {
		elements := make([]api.Rat, n)
		for i, row := range m {
			elements[i] = rat.Neg(row[k])
		}
		t.columns = append(t.columns, whole(elements))
	}
	t.columns = append(t.columns, whole(minus))
	return t
}

// search pivots until z0 is not basic, and returns the number of the pivots.
func (t *table) search(most int) (int, api.Errno) {
	z0 := len(t.columns) - 1
	enters, elements := z0, t.elements(z0)
	// All these elements are the same, so that the least key is that with the least quotient.
	row, found := t.first(negated(elements))
	for pivots := range most {
		leaves := t.pivot(row, enters, elements)
		if leaves == z0 {
			return pivots + 1, api.OK
		}
		enters = (leaves + len(t.keys)) % z0
		elements = t.elements(enters)
		if row, found = t.first(elements); !found {
			return 0, api.ErrRay
		}
	}
	return 0, api.ErrFuel
}

// at returns the element of a row in a variable's column, times the number by which the key is multiplied, and the column's factor.
func (t *table) at(row, variable int) api.Rat {
	return rat.Dot(t.keys[row][1:], t.columns[variable].numbers)
}

// elements returns what at returns for each row.
func (t *table) elements(variable int) []api.Rat {
	l := make([]api.Rat, len(t.keys))
	for i := range l {
		l[i] = t.at(i, variable)
	}
	return l
}

// first returns the row with the least key divided by its element, of those whose element is positive; false, if there is none.
func (t *table) first(elements []api.Rat) (int, bool) {
	best := -1
rows:
	for i, c := range elements {
		if rat.Sign(c) <= 0 {
			continue
		}
		if best < 0 {
			best = i
			continue
		}
		for k, a := range t.keys[i] {
			other := t.keys[best][k]
			switch rat.Compare(rat.Mul(a, elements[best]), rat.Mul(other, c)) {
			case -1:
				best = i
				continue rows
			case 1:
				continue rows
			}
		}
	}
	return best, best >= 0
}

// pivot makes a variable, whose elements are given, the basic one of a row, and returns the one that leaves.
func (t *table) pivot(top, enters int, elements []api.Rat) int {
	for i, key := range t.keys {
		if i != top {
			t.keys[i] = without(key, t.keys[top], rat.Div(elements[i], elements[top]))
		}
	}
	if rat.Sign(elements[top]) < 0 {
		t.keys[top] = negated(t.keys[top])
	}
	leaves := t.basic[top]
	t.basic[top] = enters
	return leaves
}

// without returns a key less a multiple of another one.
func without(key, other []api.Rat, multiple api.Rat) []api.Rat {
	l := make([]api.Rat, len(key))
	copy(l, key)
	if rat.Sign(multiple) == 0 {
		return l
	}
	p, q := api.Rat{P: multiple.P}, denominator(multiple)
	for k, a := range other {
		l[k] = rat.Sub(rat.Mul(q, l[k]), rat.Mul(p, a))
	}
	shorten(l)
	return l
}

// shorten divides a key, whose elements in the columns of w are integers, by what these have in common.
func shorten(key []api.Rat) {
	l, one := key[1:], rat.Of(1, 1)
	// All integers so far were the divisor times what they are now.
	var divisor api.Rat
	for i, a := range l {
		if rat.Sign(divisor) == 0 {
			divisor = rat.Mul(a, rat.Of(rat.Sign(a), 1))
		}
		l[i] = rat.Div(a, divisor)
		missing := denominator(l[i])
		if rat.Same(missing, one) {
			continue
		}
		divisor = rat.Div(divisor, missing)
		for k := range i + 1 {
			l[k] = rat.Mul(l[k], missing)
		}
	}
	key[0] = rat.Div(key[0], divisor)
}

// values returns the values of all variables.
func (t *table) values() []api.Rat {
	values := make([]api.Rat, len(t.columns))
	for i, variable := range t.basic {
		factor := rat.Div(t.columns[variable].factor, t.side.factor)
		values[variable] = rat.Mul(rat.Div(t.keys[i][0], t.at(i, variable)), factor)
	}
	return values
}

// denominator returns the denominator of a number.
func denominator(a api.Rat) api.Rat {
	return api.Rat{P: rat.Den(a)}
}

// unit returns the rows of the unit matrix.
func unit(n int) [][]api.Rat {
	rows := make([][]api.Rat, n)
	for i := range rows {
		rows[i] = make([]api.Rat, n)
		rows[i][i] = rat.Of(1, 1)
	}
	return rows
}

// negated returns numbers with the other sign.
func negated(numbers []api.Rat) []api.Rat {
	l := make([]api.Rat, len(numbers))
	for i, a := range numbers {
		l[i] = rat.Neg(a)
	}
	return l
}
