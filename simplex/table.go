package simplex

import (
	"iter"
	"slices"

	"gantry/api"
	"gantry/rat"
)

// A table is a program as rows, which say how some variables depend on the others, those of the columns.
//
// Variables are numbered: first the room of each line, B - A x, which must not be negative; then the variables of the program; then the goal; and then constants, to which the first column and columns after those of the program belong. The first constant is 1, each further one a speck: a positive number that is less than any positive number made of those before it. At the table's point, the variables of all other columns are 0.
//
// The last row is that of the goal. The others are those of lines, as the rows of the program's variables are laid aside.
type table struct {
	lines, vars int
	columns     []int
	rows        []row
	aside       []definition
}

// A definition is a row with the variables that its columns had.
type definition struct {
	row
	columns []int
}

// tabled returns the table of a program.
func tabled(p api.Program) *table {
	t := &table{lines: len(p.Lines), vars: p.Vars}
	t.columns = append(t.columns, t.goal()+1)
	for k := range p.Vars {
		t.columns = append(t.columns, t.lines+k)
	}
	add := func(variable int, constant api.Rat, a []api.Rat) {
		numbers := append([]api.Rat{constant}, a...)
		t.rows = append(t.rows, scaled(variable, rat.Of(1, 1), numbers))
	}
	for i, l := range p.Lines {
		add(i, l.B, negated(l.A))
	}
	add(t.goal(), api.Rat{}, p.Goal)
	for k := range p.Vars {
		if r, found := t.release(k + 1); found {
			t.aside = append(t.aside, definition{r, slices.Clone(t.columns)})
		}
	}
	return t
}

// goal returns the number of the goal as a variable.
func (t *table) goal() int {
	return t.lines + t.vars
}

// bounded returns the rows of lines.
func (t *table) bounded() []row {
	return t.rows[:len(t.rows)-1]
}

// constants yields the columns of the constants.
func (t *table) constants() iter.Seq[int] {
	return func(yield func(int) bool) {
		for column, variable := range t.columns {
			if variable > t.goal() && !yield(column) {
				return
			}
		}
	}
}

// negative reports whether the variable of a row is negative at the table's point.
func (t *table) negative(r row) bool {
	for column := range t.constants() {
		if sign := r.sign(column); sign != 0 {
			return sign < 0
		}
	}
	return false
}

// pivot exchanges the variables of a row and a column.
func (t *table) pivot(i, column int) {
	top := t.rows[i].solved(column, t.columns[column])
	put := func(k int) {
		if k != i {
			t.rows[k] = t.rows[k].with(top, column)
		}
	}
	for k := range len(t.rows) {
		put(k)
	}
	t.columns[column], t.rows[i] = t.rows[i].variable, top
}

// release takes the variable of a column, which may have any value, out of the table, and returns the row that tells it. If no line depends on the variable, it stays.
func (t *table) release(column int) (row, bool) {
	best := -1
	for i, r := range t.bounded() {
		// A row with few terms adds few to the others.
		if r.sign(column) != 0 && (best < 0 || r.terms() < t.rows[best].terms()) {
			best = i
		}
	}
	if best < 0 {
		return row{}, false
	}
	t.pivot(best, column)
	r := t.rows[best]
	t.rows = slices.Delete(t.rows, best, best+1)
	return r, true
}

// without returns the table of a program without some lines, and without specks. It does not tell the program's variables.
func (t *table) without(gone func(line int) bool) *table {
	left := func(variable int) bool { return variable < t.lines && gone(variable) }
	rest := &table{lines: t.lines, vars: t.vars, columns: slices.Clone(t.columns[:t.vars+1])}
	for _, r := range t.rows {
		if !left(r.variable) {
			rest.rows = append(rest.rows, row{r.variable, r.factor, r.numbers[:t.vars+1]})
		}
	}
	for column, variable := range t.columns {
		if left(variable) {
			rest.release(column)
		}
	}
	return rest
}

// loosen adds a new speck to the variable of each row: room for the lines of all rows. What it adds to the goal does not matter.
func (t *table) loosen() {
	for i, r := range t.rows {
		t.rows[i].numbers = append(slices.Clone(r.numbers), rat.Of(1, 1))
	}
	t.columns = append(t.columns, len(t.columns)+t.lines+1)
}

// variables returns the values of the program's variables if one of the columns has a value, and the others are 0.
func (t *table) variables(column int, value api.Rat) []api.Rat {
	columns := make([]api.Rat, len(t.columns))
	columns[column] = value
	// Rows, laid aside or not, are as many as the lines and the goal.
	all := make([]api.Rat, len(t.columns)+t.lines+1)
	for k, variable := range t.columns {
		all[variable] = columns[k]
	}
	for _, r := range t.rows {
		all[r.variable] = r.at(columns)
	}
	// A row depends on no variable whose row was laid aside before.
	for _, d := range slices.Backward(t.aside) {
		values := make([]api.Rat, len(d.columns))
		for k, variable := range d.columns {
			values[k] = all[variable]
		}
		all[d.variable] = d.at(values)
	}
	return all[t.lines:t.goal():t.goal()]
}

// multipliers returns a number for each line: what the row of the goal, or a row that is to be refuted, says is the sum of the lines times these numbers.
func (t *table) multipliers(r row) []api.Rat {
	y := make([]api.Rat, t.lines)
	if r.variable < t.lines {
		y[r.variable] = rat.Of(1, 1)
	}
	for column, variable := range t.columns {
		if variable < t.lines {
			y[variable] = rat.Neg(rat.Div(r.numbers[column], r.factor))
		}
	}
	return y
}
