package simplex

import (
	"slices"

	"gantry/api"
	"gantry/rat"
)

// Check returns api.OK if an answer is right.
func Check(p api.Program, a api.Answer) api.Errno {
	if e := fits(p); e != api.OK {
		return e
	}
	if !right(p, a) {
		return api.ErrProof
	}
	return api.OK
}

// right reports whether an answer is right for a program that fits.
func right(p api.Program, a api.Answer) bool {
	side := func(l api.Line) api.Rat { return l.B }
	nothing := func(api.Line) api.Rat { return api.Rat{} }
	switch a.Kind {
	case api.Optimal:
		return keeps(p, a.X, side) && proves(p, a.Y, p.Goal) &&
			rat.Same(rat.Dot(p.Goal, a.X), a.Value) && rat.Same(total(p, a.Y, side), a.Value)
	case api.Infeasible:
		return len(a.X) == 0 && proves(p, a.Y, make([]api.Rat, p.Vars)) &&
			rat.Sign(total(p, a.Y, side)) < 0 && rat.Sign(a.Value) == 0
	case api.Unbounded:
		return keeps(p, a.X, side) && keeps(p, a.Y, nothing) &&
			rat.Sign(rat.Dot(p.Goal, a.Y)) > 0 && rat.Sign(a.Value) == 0
	}
	return false
}

// keeps reports whether a list has a number for each variable, and for these, no line is greater than its side.
func keeps(p api.Program, x []api.Rat, side func(api.Line) api.Rat) bool {
	for _, l := range p.Lines {
		if rat.Compare(rat.Dot(l.A, x), side(l)) > 0 {
			return false
		}
	}
	return len(x) == p.Vars
}

// proves reports whether a list has a number for each line, none of which is negative, and the lines times these numbers are together a goal.
func proves(p api.Program, y, goal []api.Rat) bool {
	negative := func(a api.Rat) bool { return rat.Sign(a) < 0 }
	if len(y) != len(p.Lines) || slices.ContainsFunc(y, negative) {
		return false
	}
	for k, a := range goal {
		if !rat.Same(total(p, y, func(l api.Line) api.Rat { return l.A[k] }), a) {
			return false
		}
	}
	return true
}

// total returns the sum of what a function tells of the lines, each time times the line's number.
func total(p api.Program, y []api.Rat, of func(api.Line) api.Rat) api.Rat {
	l := make([]api.Rat, len(p.Lines))
	for i, line := range p.Lines {
		l[i] = of(line)
	}
	return rat.Dot(y, l)
}
