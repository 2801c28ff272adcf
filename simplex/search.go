package simplex

import (
	"iter"
	"slices"

	"gantry/api"
	"gantry/rat"
)

// raising yields the columns whose variables can change from 0 such that the variable of a row grows.
func (t *table) raising(r row) iter.Seq[int] {
	return func(yield func(int) bool) {
		for column, variable := range t.columns {
			// Those of the program can also fall; constants do not change.
			sign := r.sign(column)
			rises := sign > 0 || sign < 0 && variable >= t.lines
			if rises && variable < t.goal() && !yield(column) {
				return
			}
		}
	}
}

// stuck reports whether the variable of a row is nowhere greater than at the table's point.
func (t *table) stuck(r row) bool {
	for range t.raising(r) {
		return false
	}
	return true
}

// target returns the row whose variable has to grow: the first one that is negative, or that of the goal if there is none. It prefers a negative one that is stuck.
func (t *table) target() int {
	target := len(t.rows) - 1
	for i, r := range slices.Backward(t.bounded()) {
		if !t.negative(r) {
			continue
		}
		if t.stuck(r) {
			return i
		}
		target = i
	}
	return target
}

// A step exchanges the variables of a row and a column. The gain is by how much the variable of the target grows, times the target's factor: a multiple of each constant.
type step struct {
	row, column int
	gain        []api.Rat
}

// reach returns how far the variable of a column grows until that of a row is 0: a multiple of each constant.
func (t *table) reach(r row, column int) []api.Rat {
	var l []api.Rat
	for k := range t.constants() {
		l = append(l, rat.Neg(rat.Div(r.numbers[k], r.numbers[column])))
	}
	return l
}

// along returns the step in which the variable of a column grows until that of the target, or one that is not negative, is 0; false, if it grows without end.
func (t *table) along(column, target int) (step, bool) {
	s := step{column: column}
	for i, r := range t.bounded() {
		falls := !t.negative(r) && r.sign(column) < 0
		if i != target && !falls {
			continue
		}
		reach := t.reach(r, column)
		if s.gain == nil || slices.CompareFunc(reach, s.gain, rat.Compare) < 0 {
			s.row, s.gain = i, reach
		}
	}
	for k, a := range s.gain {
		s.gain[k] = rat.Mul(a, t.rows[target].numbers[column])
	}
	return s, s.gain != nil
}

// best returns the step with the greatest gain, which is nil if the target is stuck; false, if there is no greatest one.
func (t *table) best(target int) (step, bool) {
	var best step
	for column := range t.raising(t.rows[target]) {
		s, found := t.along(column, target)
		if !found {
			return s, false
		}
		if slices.CompareFunc(s.gain, best.gain, rat.Compare) > 0 {
			best = s
		}
	}
	return best, true
}

// An end is where a search ends: the kind of the answer, the row that is stuck or grows without end, and in the second case the column that lets it grow.
type end struct {
	kind, row, column int
}

// search goes from point to point until no line is negative and the goal is stuck or grows without end, or until a negative line is stuck.
//
// Steps without a gain could lead in a circle. In place of one, the lines of all rows get a speck of room, so that each step has a gain. Where a search ends with specks, it ends without them, too: what is not negative is not negative without specks; and as specks only add room, a line that is stuck below 0 is there by more than specks.
func (t *table) search() end {
	for {
		target := t.target()
		s, found := t.best(target)
		switch {
		case !found:
			return end{api.Unbounded, target, s.column}
		case s.gain == nil && target == len(t.rows)-1:
			return end{api.Optimal, target, 0}
		case s.gain == nil:
			return end{api.Infeasible, target, 0}
		case slices.ContainsFunc(s.gain, func(a api.Rat) bool { return rat.Sign(a) != 0 }):
			t.pivot(s.row, s.column)
		default:
			t.loosen()
		}
	}
}
