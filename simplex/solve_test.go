package simplex_test

import (
	"math/big"
	"slices"
	"testing"

	"gantry/api"
	"gantry/rat"
	"gantry/simplex"
)

// The examples of the chapter.
func TestExamples(t *testing.T) {
	m := of([]int{1, 1}, []int{1, 0, 2}, []int{0, 1, 3}, []int{1, 1, 4})
	greatest(t, m, fraction(4, 1))
	m = m.with(of(nil, []int{-1, 0, -3}).lines...)
	kindIs(t, m, api.Infeasible)
	if l, e := simplex.Core(m.program(), []int{7, 3, 3, 5}); e != api.OK || !slices.Equal(l, []int{5, 7}) {
		t.Error("P10.4: the groups of both lines about x:", l, e)
	}
	kindIs(t, of([]int{1, -1}, []int{0, 1, 3}), api.Unbounded)
}

// all yields all vectors of a length with elements of a few integers.
func all(n int, l ...int) [][]int {
	vectors := [][]int{nil}
	for range n {
		var longer [][]int
		for _, v := range vectors {
			for _, a := range l {
				longer = append(longer, append(slices.Clone(v), a))
			}
		}
		vectors = longer
	}
	return vectors
}

// agreed tests Solve with a small program, also against the search for a point by leaving out variables.
func agreed(t *testing.T, m model) {
	t.Helper()
	a := solved(t, m)
	if (a.Kind == api.Infeasible) == m.possible() {
		t.Fatal("P10.1: Solve of", m, "returns", answerText(a))
	}
}

// P10.1: all programs with few variables and lines.
func TestSmall(t *testing.T) {
	for _, goal := range all(1, -2, 0, 1) {
		lines := all(2, -1, 0, 1)
		agreed(t, of(goal))
		for _, k := range lines {
			agreed(t, of(goal, k))
			for _, l := range lines {
				agreed(t, of(goal, k, l))
				for _, n := range lines {
					agreed(t, of(goal, k, l, n))
				}
			}
		}
	}
	for _, goal := range [][]int{{0, 0}, {1, 0}, {0, -1}, {1, 2}, {-1, 1}} {
		lines := all(3, -1, 0, 1)
		for i, k := range lines {
			agreed(t, of(goal, k))
			for j, l := range lines {
				agreed(t, of(goal, k, l))
				n := lines[(7*i+11*j)%len(lines)]
				agreed(t, of(goal, k, l, n))
				agreed(t, of(goal, k, l, n, []int{1, 1, 1}, []int{-1, 0, 0}))
			}
		}
	}
}

// P10.1: programs without variables or without lines.
func TestNothing(t *testing.T) {
	for _, p := range []api.Program{{}, {Goal: []api.Rat{}, Lines: []api.Line{}}} {
		if a, e := simplex.Solve(p); e != api.OK || !empty(a) {
			t.Error("P10.1:", e, answerText(a))
		}
		if e := simplex.Check(p, api.Answer{X: []api.Rat{}, Y: nil}); e != api.OK {
			t.Error("P10.2:", e)
		}
	}
	greatest(t, of(nil, []int{0}, []int{3}), fraction(0, 1))
	kindIs(t, of(nil, []int{0}, []int{-3}, []int{-4}), api.Infeasible)
	greatest(t, of([]int{0, 0, 0}), fraction(0, 1))
	kindIs(t, of([]int{0, 0, -1}), api.Unbounded)
	kindIs(t, of([]int{0, 3, -1}), api.Unbounded)
	kindIs(t, of(make([]int, 32), append(make([]int, 32), -1)), api.Infeasible)
	greatest(t, of(make([]int, 32), append(make([]int, 32), 1)), fraction(0, 1))
	kindIs(t, of(append(make([]int, 31), -5), append(make([]int, 32), 1)), api.Unbounded)
}

// P10.1: programs with lines that say the same, that say nothing, that hold with equality only, or that leave a direction free.
func TestSpecial(t *testing.T) {
	// x + y = 2 and x - y = 1, each as two lines.
	corner := of([]int{1, 3}, []int{1, 1, 2}, []int{-1, -1, -2}, []int{1, -1, 1}, []int{-1, 1, -1})
	greatest(t, corner, fraction(3, 1))
	greatest(t, corner.towards(vector(0, -4)), fraction(-2, 1))
	kindIs(t, corner.with(of(nil, []int{1, 0, 1}).lines...), api.Infeasible)
	greatest(t, corner.with(of(nil, []int{2, 0, 3}).lines...), fraction(3, 1))
	// A line twice, and times 7.
	double := of([]int{1, 1}, []int{1, 2, 3}, []int{1, 2, 3}, []int{7, 14, 21}, []int{2, 1, 3}, []int{2, 1, 3})
	greatest(t, double, fraction(2, 1))
	kindIs(t, double.towards(vector(1, 0)), api.Unbounded)
	kindIs(t, double.with(of(nil, []int{0, 0, 0}).lines...).towards(vector(-1, 0)), api.Unbounded)
	greatest(t, double.towards(vector(0, 0)), fraction(0, 1))
	// Only the difference of the variables is bounded.
	free := of([]int{2, -2, 0}, []int{1, -1, 0, 5}, []int{-1, 1, 0, 5})
	greatest(t, free, fraction(10, 1))
	for _, goal := range [][]*big.Rat{vector(1, 1, 0), vector(-1, -1, 0), vector(0, 0, 1), vector(0, 0, -1), vector(1, 0, 0), vector(-3, 2, 0)} {
		kindIs(t, free.towards(goal), api.Unbounded)
	}
	kindIs(t, free.with(of(nil, []int{1, -1, 0, -6}).lines...).towards(vector(1, 1, 1)), api.Infeasible)
	// Only the origin, or none.
	point := of([]int{1, 1}, []int{1, 0, 0}, []int{0, 1, 0}, []int{-1, -1, 0})
	greatest(t, point, new(big.Rat))
	greatest(t, point.towards(vector(5, -3)), new(big.Rat))
	empty := of([]int{1, 1}, []int{1, 0, 0}, []int{0, 1, 0}, []int{-1, -1, 0})
	empty.lines[2].b = new(big.Rat).SetFrac(big.NewInt(-1), new(big.Int).Lsh(big.NewInt(1), 400))
	kindIs(t, empty, api.Infeasible)
}

// P10.1: programs whose answers are known, of all sizes.
func TestKnown(t *testing.T) {
	r := source("Known")
	test := func(vars, lines int, number kind) {
		t.Helper()
		m, value := someBounded(r, vars, lines, number)
		greatest(t, m, value)
		kindIs(t, someInfeasible(r, vars, lines, number), api.Infeasible)
		if vars > 0 {
			kindIs(t, someUnbounded(r, vars, lines, number), api.Unbounded)
		}
	}
	for i := range 400 {
		test(r.IntN(7), 1+r.IntN(9), kinds()[i%4])
	}
	for _, number := range []kind{few, plain, rare} {
		test(32, 64, number)
		test(32, 20, number)
		test(9, 64, number)
		test(1, 64, number)
		test(32, 1, number)
	}
	test(12, 20, unusual)
}

// P10.1: any programs.
func TestAny(t *testing.T) {
	r := source("Any")
	found := map[int]int{}
	for i := range 1200 {
		m := some(r, r.IntN(6), r.IntN(10), kinds()[i%4], int64(r.IntN(9)-3))
		found[solved(t, m).Kind]++
		if len(m.goal) < 4 && len(m.lines) < 7 {
			agreed(t, m)
		}
	}
	for _, k := range []int{api.Optimal, api.Infeasible, api.Unbounded} {
		if found[k] < 100 {
			t.Error("too few programs of the kind", k, found)
		}
	}
}

// bent returns a cube in which each side leans to the next ones, so that the path along its edges on which the goal grows can pass through all its corners.
func bent(n int) model {
	m := model{goal: zeros(n)}
	for i := range n {
		power := func(base int64, to int) *big.Rat {
			return new(big.Rat).SetInt(new(big.Int).Exp(big.NewInt(base), big.NewInt(int64(to)), nil))
		}
		m.goal[i] = power(2, n-1-i)
		upper, lower := zeros(n), zeros(n)
		for k := range i {
			upper[k] = power(2, i-k+1)
		}
		upper[i].SetInt64(1)
		lower[i].SetInt64(-1)
		m.lines = append(m.lines, line{upper, power(5, i+1)}, line{lower, new(big.Rat)})
	}
	return m
}

// leaning returns another such cube.
func leaning(n int) model {
	m := model{goal: zeros(n)}
	for i := range n {
		lower, upper := zeros(n), zeros(n)
		lower[i].SetInt64(-1)
		upper[i].SetInt64(1)
		if i > 0 {
			lower[i-1].SetFrac64(1, 3)
			upper[i-1].SetFrac64(1, 3)
		}
		m.lines = append(m.lines, line{lower, new(big.Rat)}, line{upper, fraction(1, 1)})
	}
	m.goal[n-1].SetInt64(1)
	return m
}

// cone returns the program about the multiples of a program's points; its goal is at most 0.
func cone(m model, value *big.Rat) model {
	c := model{goal: append(slices.Clone(m.goal), new(big.Rat).Neg(value))}
	for _, l := range m.lines {
		c.lines = append(c.lines, line{append(slices.Clone(l.a), new(big.Rat).Neg(l.b)), new(big.Rat)})
	}
	return c
}

// reaching returns the program whose points are those at which the goal of a program has at least a value.
func reaching(m model, value *big.Rat) model {
	last := line{times(m.goal, fraction(-1, 1)), new(big.Rat).Neg(value)}
	return m.with(last).towards(zeros(len(m.goal)))
}

// P1, P10.1: programs on which some searches need more steps than can be done.
func TestLong(t *testing.T) {
	r := source("Long")
	for _, cube := range []func(n int) model{bent, leaning} {
		for _, n := range []int{2, 3, 10, 31} {
			value := exact(solved(t, cube(n)).Value)
			more := new(big.Rat).Add(value, fraction(1, 1000))
			for range 3 {
				m := shuffled(r, cube(n))
				greatest(t, m, value)
				greatest(t, reaching(m, value), new(big.Rat))
				kindIs(t, reaching(m, more), api.Infeasible)
				greatest(t, cone(m, value), new(big.Rat))
				kindIs(t, cone(m, new(big.Rat).Neg(value)), api.Unbounded)
			}
			greatest(t, cone(cube(n), value), new(big.Rat))
		}
		kindIs(t, cube(32), api.Optimal)
	}
}

// P1, P10.1: programs on which some searches go in circles, as many lines meet in a point.
func TestCircles(t *testing.T) {
	// Beale's program, and one of Chvátal's.
	m := model{[]*big.Rat{fraction(3, 4), fraction(-150, 1), fraction(1, 50), fraction(-6, 1)}, []line{
		{[]*big.Rat{fraction(1, 4), fraction(-60, 1), fraction(-1, 25), fraction(9, 1)}, new(big.Rat)},
		{[]*big.Rat{fraction(1, 2), fraction(-90, 1), fraction(-1, 50), fraction(3, 1)}, new(big.Rat)},
		{vector(0, 0, 1, 0), fraction(1, 1)},
	}}
	n := of([]int{10, -57, -9, -24}, []int{1, -11, -5, 18, 0}, []int{1, -3, -1, 2, 0}, []int{1, 0, 0, 0, 1})
	for k := range 4 {
		positive := line{zeros(4), new(big.Rat)}
		positive.a[k].SetInt64(-1)
		m, n = m.with(positive), n.with(positive)
	}
	greatest(t, m, fraction(1, 20))
	greatest(t, n, fraction(1, 1))
	r := source("Circles")
	for i := range 300 {
		m := some(r, 1+r.IntN(6), r.IntN(20), kinds()[i%3], 0)
		// All lines meet in a point, or all but one.
		x := someVector(r, len(m.goal), few)
		for _, l := range m.lines {
			l.b.Set(inner(l.a, x))
		}
		if i%2 == 0 && len(m.lines) > 0 {
			m.lines[r.IntN(len(m.lines))].b.Add(fraction(r.Int64N(3)-1, 1), new(big.Rat))
		}
		solved(t, m)
	}
	for i := range 9 {
		m := some(r, 32, 64, kinds()[i%3], 0)
		for k, l := range m.lines {
			l.b.SetInt64(0)
			if i%2 == 0 && k < 32 {
				l.a = slices.Clone(zeros(32))
				l.a[k].SetInt64(-1)
			}
		}
		solved(t, m)
	}
}

// P1: the greatest programs take no longer than a moment.
func TestGreat(t *testing.T) {
	r := source("Great")
	for _, number := range kinds()[:3] {
		for _, rise := range []int64{0, 10, 100} {
			m := some(r, 32, 64, number, rise)
			solved(t, m)
		}
	}
	m := some(r, 10, 20, unusual, 3)
	solved(t, m)
}

// P10.3: Range returns what Solve returns.
func TestRange(t *testing.T) {
	r := source("Range")
	test := func(m model, goal []*big.Rat) {
		t.Helper()
		p := m.program()
		least, greatest, e := simplex.Range(p, list(goal))
		first, f := simplex.Solve(m.towards(times(goal, fraction(-1, 1))).program())
		second, g := simplex.Solve(m.towards(goal).program())
		if e != api.OK || f != api.OK || g != api.OK || !equalAnswers(least, first) || !equalAnswers(greatest, second) {
			t.Fatal("P10.3: Range of", m, "for", vectorText(goal), "returns", e, answerText(least), answerText(greatest))
		}
		if !m.towards(times(goal, fraction(-1, 1))).right(least) || !m.towards(goal).right(greatest) {
			t.Fatal("P10.3: Range of", m, "for", vectorText(goal), "returns", answerText(least), answerText(greatest))
		}
		if !equalPrograms(p, m.program()) {
			t.Fatal("P10.3: Range changes its program", m)
		}
	}
	test(of(nil), nil)
	test(of([]int{5, 5}, []int{1, 0, 2}, []int{-1, 0, 3}), vector(1, 0))
	test(of([]int{5, 5}, []int{1, 0, 2}, []int{-1, 0, 3}), vector(0, 1))
	test(of([]int{5, 5}, []int{1, 0, 2}, []int{-1, 0, -3}), vector(1, 1))
	for i := range 300 {
		m := some(r, r.IntN(5), r.IntN(8), kinds()[i%4], int64(r.IntN(9)-2))
		test(m, someVector(r, len(m.goal), kinds()[i%4]))
		test(m, m.goal)
		test(m, zeros(len(m.goal)))
	}
	a, b, e := simplex.Range(of([]int{1}, []int{2, 9}, []int{-1, 4}).program(), list(vector(3)))
	if e != api.OK || a.Kind != api.Optimal || b.Kind != api.Optimal || exact(a.Value).Cmp(fraction(12, 1)) != 0 || exact(b.Value).Cmp(fraction(27, 2)) != 0 {
		t.Error("P10.3: Range of 3 x from -12 to 27/2:", e, answerText(a), answerText(b))
	}
}

// Results are the caller's; arguments are not changed; equal programs have equal answers.
func TestMemory(t *testing.T) {
	r := source("Memory")
	bounded, _ := someBounded(r, 4, 9, plain)
	for _, m := range []model{bounded, someInfeasible(r, 4, 9, plain), someUnbounded(r, 4, 9, plain), of([]int{0, 0}), of([]int{0, 1})} {
		p := m.program()
		a, e := simplex.Solve(p)
		b, f := simplex.Solve(p)
		if e != api.OK || f != api.OK || !equalAnswers(a, b) || !equalPrograms(p, m.program()) {
			t.Fatal("P10.1: Solve of", m, "twice:", e, f, answerText(a), answerText(b))
		}
		for _, l := range [][]api.Rat{a.X[:cap(a.X)], a.Y[:cap(a.Y)]} {
			for k := range l {
				l[k] = rat.Of(77, 5)
			}
		}
		if c, _ := simplex.Solve(p); !equalAnswers(b, c) || !equalPrograms(p, m.program()) {
			t.Fatal("P10.1: an answer of", m, "shares memory")
		}
		low, high, _ := simplex.Range(p, p.Goal)
		again, _, _ := simplex.Range(p, p.Goal)
		for _, l := range [][]api.Rat{high.X[:cap(high.X)], high.Y[:cap(high.Y)]} {
			for k := range l {
				l[k] = rat.Of(77, 5)
			}
		}
		if !equalAnswers(low, again) || !equalPrograms(p, m.program()) {
			t.Fatal("P10.3: the answers of", m, "share memory")
		}
	}
}

// blank returns a program of zeros.
func blank(vars, lines int) api.Program {
	p := api.Program{Vars: vars, Goal: make([]api.Rat, vars)}
	for range lines {
		p.Lines = append(p.Lines, api.Line{A: make([]api.Rat, vars)})
	}
	return p
}

// errors tests that all functions return an error for a program.
func errors(t *testing.T, p api.Program, want api.Errno) {
	t.Helper()
	if a, e := simplex.Solve(p); e != want || !empty(a) {
		t.Error("P10.1: Solve returns", e, answerText(a), "not", want)
	}
	for _, kind := range []int{api.Optimal, api.Infeasible, api.Unbounded, -1, 3} {
		if e := simplex.Check(p, api.Answer{Kind: kind, Y: make([]api.Rat, len(p.Lines))}); e != want {
			t.Error("P10.2: Check returns", e, "not", want)
		}
	}
	for _, goal := range [][]api.Rat{nil, p.Goal, make([]api.Rat, min(max(0, p.Vars), 64))} {
		if a, b, e := simplex.Range(p, goal); e != want || !empty(a) || !empty(b) {
			t.Error("P10.3: Range returns", e, answerText(a), answerText(b), "not", want)
		}
	}
	for _, groups := range [][]int{nil, make([]int, len(p.Lines)), {-2}} {
		if l, e := simplex.Core(p, groups); e != want || len(l) > 0 {
			t.Error("P10.4: Core returns", e, l, "not", want)
		}
	}
}

// Programs that are too large or not well-formed, in the order of the errors.
func TestErrors(t *testing.T) {
	errors(t, blank(33, 0), api.ErrLimit)
	errors(t, blank(0, 65), api.ErrLimit)
	errors(t, blank(33, 65), api.ErrLimit)
	errors(t, blank(1000, 1), api.ErrLimit)
	errors(t, blank(3, 1000), api.ErrLimit)
	errors(t, api.Program{Vars: 33}, api.ErrLimit)
	errors(t, api.Program{Vars: 1 << 62}, api.ErrLimit)
	errors(t, api.Program{Vars: -1, Lines: make([]api.Line, 65)}, api.ErrLimit)
	errors(t, api.Program{Vars: 2, Lines: make([]api.Line, 65)}, api.ErrLimit)
	errors(t, api.Program{Vars: -1}, api.ErrArg)
	errors(t, api.Program{Vars: -1 << 63}, api.ErrArg)
	errors(t, api.Program{Vars: -1, Goal: make([]api.Rat, 1), Lines: make([]api.Line, 1)}, api.ErrArg)
	errors(t, api.Program{Vars: 1}, api.ErrArg)
	errors(t, api.Program{Vars: 32, Lines: make([]api.Line, 64)}, api.ErrArg)
	for _, n := range []int{0, 1, 3, 4, 33} {
		p := blank(2, 64)
		p.Goal = make([]api.Rat, n)
		errors(t, p, api.ErrArg)
		for _, i := range []int{0, 30, 63} {
			p := blank(2, 64)
			p.Lines[i].A = make([]api.Rat, n)
			errors(t, p, api.ErrArg)
		}
	}
	p := blank(0, 2)
	p.Lines[1].A = make([]api.Rat, 1)
	errors(t, p, api.ErrArg)
	// The greatest programs.
	if a, e := simplex.Solve(blank(32, 64)); e != api.OK || a.Kind != api.Optimal || len(a.X) != 32 || len(a.Y) != 64 {
		t.Error("P10.1: the greatest program:", e, answerText(a))
	}
	// P10.3: a goal of another length.
	p = blank(2, 3)
	for _, n := range []int{0, 1, 3, 33} {
		if a, b, e := simplex.Range(p, make([]api.Rat, n)); e != api.ErrArg || !empty(a) || !empty(b) {
			t.Error("P10.3: Range for a goal of another length:", n, e)
		}
	}
	if a, b, e := simplex.Range(blank(0, 1), make([]api.Rat, 1)); e != api.ErrArg || !empty(a) || !empty(b) {
		t.Error("P10.3: Range for a goal of another length:", e)
	}
}

// odd returns integers most of which are not valid, and those that are make numbers that are not.
func odd() []api.Int {
	return []api.Int{
		{}, {Neg: true}, {D: []int{1, 0}}, {D: []int{0}}, {D: []int{-5}}, {D: []int{api.Base}}, {Neg: true, D: []int{1 << 62, 3}},
		{D: []int{3, -1 << 63}}, {D: []int{1}}, {D: []int{2}}, {Neg: true, D: []int{4}},
	}
}

// P1: a search ends whatever numbers are not valid, as there is none with them. (Otherwise, nothing is specified.)
func TestNotValid(t *testing.T) {
	for _, p := range odd() {
		for _, q := range odd() {
			n := api.Rat{P: p, Q: q}
			if rat.Valid(n) {
				continue
			}
			for place := range 5 {
				m := of([]int{1, 1}, []int{1, 2, 3}, []int{-2, -4, -7}).program()
				at := []*api.Rat{&m.Goal[0], &m.Goal[1], &m.Lines[0].A[0], &m.Lines[1].A[1], &m.Lines[1].B}[place]
				*at = n
				errors(t, m, api.ErrArg)
			}
			goal := []api.Rat{rat.Of(1, 1), n}
			if a, b, e := simplex.Range(blank(2, 1), goal); e != api.ErrArg || !empty(a) || !empty(b) {
				t.Error("P10.3: Range for a goal that is not valid:", e)
			}
		}
	}
}

// P1: Check returns whatever numbers of an answer are not valid.
func TestCheckNotValid(t *testing.T) {
	m := of([]int{1}, []int{1, 3}, []int{-2, 4})
	for _, kind := range []int{api.Optimal, api.Infeasible, api.Unbounded} {
		for _, p := range odd() {
			for _, q := range odd() {
				n := api.Rat{P: p, Q: q}
				soon(t, func() {
					simplex.Check(m.program(), api.Answer{Kind: kind, X: []api.Rat{n}, Y: []api.Rat{n, n}, Value: n})
					simplex.Check(m.program(), api.Answer{Kind: kind, Y: []api.Rat{n, rat.Of(1, 1)}, Value: n})
					simplex.Check(of([]int{1}, []int{-1, 2}).program(), api.Answer{Kind: kind, X: []api.Rat{{}}, Y: []api.Rat{n}})
				})
			}
		}
	}
}
