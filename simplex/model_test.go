package simplex_test

import (
	"fmt"
	"math/big"
	"math/rand/v2"
	"slices"
	"strings"
	"testing"
	"time"

	"gantry/api"
	"gantry/integer"
	"gantry/rat"
	"gantry/simplex"
)

// A line is an inequality of the oracle: a x <= b.
type line struct {
	a []*big.Rat
	b *big.Rat
}

// A model is a program of the oracle; it has as many variables as its goal has numbers.
type model struct {
	goal  []*big.Rat
	lines []line
}

// fraction returns n / d.
func fraction(n, d int64) *big.Rat {
	return big.NewRat(n, d)
}

// vector returns a vector of integers.
func vector(l ...int) []*big.Rat {
	x := make([]*big.Rat, len(l))
	for k, n := range l {
		x[k] = fraction(int64(n), 1)
	}
	return x
}

// of returns a program of integers: its goal, and its lines, each with its side at the end.
func of(goal []int, lines ...[]int) model {
	m := model{goal: vector(goal...)}
	for _, l := range lines {
		v := vector(l...)
		m.lines = append(m.lines, line{v[:len(l)-1], v[len(l)-1]})
	}
	return m
}

// zeros returns a vector of zeros.
func zeros(n int) []*big.Rat {
	return vector(make([]int, n)...)
}

// sumOf returns the sum of the vectors, each times a number.
func sumOf(n int, factors []*big.Rat, vectors ...[]*big.Rat) []*big.Rat {
	sum := zeros(n)
	for i, v := range vectors {
		for k := range sum {
			sum[k].Add(sum[k], new(big.Rat).Mul(factors[i], v[k]))
		}
	}
	return sum
}

// times returns a vector times a number.
func times(x []*big.Rat, by *big.Rat) []*big.Rat {
	return sumOf(len(x), []*big.Rat{by}, x)
}

// plus returns the sum of two vectors.
func plus(x, y []*big.Rat) []*big.Rat {
	return sumOf(len(x), vector(1, 1), x, y)
}

// inner returns the inner product.
func inner(x, y []*big.Rat) *big.Rat {
	sum := new(big.Rat)
	for k, a := range x {
		sum.Add(sum, new(big.Rat).Mul(a, y[k]))
	}
	return sum
}

// same reports whether two vectors are equal.
func same(x, y []*big.Rat) bool {
	return slices.EqualFunc(x, y, func(a, b *big.Rat) bool { return a.Cmp(b) == 0 })
}

// normals returns the left sides of the lines.
func (m model) normals() [][]*big.Rat {
	var l [][]*big.Rat
	for _, line := range m.lines {
		l = append(l, line.a)
	}
	return l
}

// sides returns the right sides of the lines.
func (m model) sides() []*big.Rat {
	var l []*big.Rat
	for _, line := range m.lines {
		l = append(l, line.b)
	}
	return l
}

// towards returns a program with another goal.
func (m model) towards(goal []*big.Rat) model {
	return model{goal, m.lines}
}

// with returns a program with further lines.
func (m model) with(lines ...line) model {
	return model{m.goal, slices.Concat(m.lines, lines)}
}

// digits returns the integer of a number.
func digits(x api.Int) *big.Int {
	n := new(big.Int)
	for _, d := range slices.Backward(x.D) {
		n.Mul(n, big.NewInt(api.Base))
		n.Add(n, big.NewInt(int64(d)))
	}
	if x.Neg {
		n.Neg(n)
	}
	return n
}

// exact returns a number of the program for the oracle.
func exact(a api.Rat) *big.Rat {
	if len(a.Q.D) == 0 {
		return new(big.Rat).SetInt(digits(a.P))
	}
	return new(big.Rat).SetFrac(digits(a.P), digits(a.Q))
}

// exactList returns numbers of the program for the oracle.
func exactList(l []api.Rat) []*big.Rat {
	x := make([]*big.Rat, len(l))
	for k, a := range l {
		x[k] = exact(a)
	}
	return x
}

// whole returns an integer of the program.
func whole(n *big.Int) api.Int {
	x, e := integer.Parse(n.String())
	if e != api.OK {
		panic(e)
	}
	return x
}

// canonical returns a number as chapter 5 describes it.
func canonical(n *big.Rat) api.Rat {
	a := api.Rat{P: whole(n.Num())}
	if !n.IsInt() {
		a.Q = whole(n.Denom())
	}
	return a
}

// list returns a vector of the program, in memory of its own without any room behind it.
func list(l []*big.Rat) []api.Rat {
	v := make([]api.Rat, len(l))
	for k, n := range l {
		v[k] = canonical(n)
	}
	return v
}

// program returns a program of the program.
func (m model) program() api.Program {
	p := api.Program{Vars: len(m.goal), Goal: list(m.goal)}
	for _, l := range m.lines {
		p.Lines = append(p.Lines, api.Line{A: list(l.a), B: canonical(l.b)})
	}
	return p
}

// String returns the goal and the lines.
func (m model) String() string {
	words := []string{"the greatest", vectorText(m.goal)}
	for _, l := range m.lines {
		words = append(words, vectorText(l.a)+"<="+l.b.RatString())
	}
	s := strings.Join(words, " ")
	return s[:min(len(s), 1500)]
}

func vectorText(l []*big.Rat) string {
	var words []string
	for _, n := range l {
		words = append(words, n.RatString())
	}
	return "(" + strings.Join(words, ", ") + ")"
}

// answerText describes an answer.
func answerText(a api.Answer) string {
	s := fmt.Sprint("kind ", a.Kind, " X ", vectorText(exactList(a.X)), " Y ", vectorText(exactList(a.Y)), " Value ", exact(a.Value).RatString())
	return s[:min(len(s), 1500)]
}

// within reports whether a point satisfies all lines.
func (m model) within(x []*big.Rat) bool {
	if len(x) != len(m.goal) {
		return false
	}
	for _, l := range m.lines {
		if inner(l.a, x).Cmp(l.b) > 0 {
			return false
		}
	}
	return true
}

// adds reports whether the sum of y times the lines has the given left side, and y has a number of at least 0 for each line.
func (m model) adds(y, a []*big.Rat) bool {
	if len(y) != len(m.lines) {
		return false
	}
	for _, n := range y {
		if n.Sign() < 0 {
			return false
		}
	}
	return same(sumOf(len(m.goal), y, m.normals()...), a)
}

// right reports whether an answer is right, as the chapter says it.
func (m model) right(a api.Answer) bool {
	x, y, value := exactList(a.X), exactList(a.Y), exact(a.Value)
	switch a.Kind {
	case api.Optimal:
		return m.within(x) && m.adds(y, m.goal) && inner(m.goal, x).Cmp(value) == 0 && inner(y, m.sides()).Cmp(value) == 0
	case api.Infeasible:
		return len(x) == 0 && m.adds(y, zeros(len(m.goal))) && inner(y, m.sides()).Sign() < 0 && value.Sign() == 0
	case api.Unbounded:
		if !m.within(x) || len(y) != len(m.goal) || inner(m.goal, y).Sign() <= 0 || value.Sign() != 0 {
			return false
		}
		for _, l := range m.lines {
			if inner(l.a, y).Sign() > 0 {
				return false
			}
		}
		return true
	}
	return false
}

// valid reports whether all numbers of an answer are in their canonical form.
func valid(a api.Answer) bool {
	return !slices.ContainsFunc(slices.Concat(a.X, a.Y, []api.Rat{a.Value}), func(n api.Rat) bool { return !rat.Valid(n) })
}

// solved returns what Solve returns for a program, which has to come soon, and to be right. As a right answer shows by itself that it is, it needs no second solver.
func solved(t *testing.T, m model) api.Answer {
	t.Helper()
	p := m.program()
	var a api.Answer
	var e api.Errno
	soon(t, func() { a, e = simplex.Solve(p) })
	if e != api.OK || !valid(a) || !m.right(a) {
		t.Fatal("P10.1: Solve of", m, "returns", e, answerText(a))
	}
	if e := simplex.Check(p, a); e != api.OK {
		t.Fatal("P10.2: Check of what Solve returns of", m, "returns", e, answerText(a))
	}
	return a
}

// soon calls a function that has to end within a minute, which is many times what it needs.
func soon(t *testing.T, f func()) {
	t.Helper()
	done := make(chan struct{})
	go func() {
		defer close(done)
		f()
	}()
	late := time.NewTimer(time.Minute)
	defer late.Stop()
	select {
	case <-done:
	case <-late.C:
		t.Fatal("P1: it does not end")
	}
}

// kindIs tests the kind of the answer.
func kindIs(t *testing.T, m model, want int) api.Answer {
	t.Helper()
	a := solved(t, m)
	if a.Kind != want {
		t.Fatal("P10.1: Solve of", m, "returns", answerText(a), "not the kind", want)
	}
	return a
}

// greatest tests the greatest value of the goal.
func greatest(t *testing.T, m model, want *big.Rat) {
	t.Helper()
	a := kindIs(t, m, api.Optimal)
	if exact(a.Value).Cmp(want) != 0 {
		t.Fatal("P10.1: Solve of", m, "returns", answerText(a), "not", want)
	}
}

// equalNumbers reports whether two numbers have the same P and Q.
func equalNumbers(a, b api.Rat) bool {
	return a.P.Neg == b.P.Neg && a.Q.Neg == b.Q.Neg && slices.Equal(a.P.D, b.P.D) && slices.Equal(a.Q.D, b.Q.D)
}

// equalLists reports whether two lists have the same numbers.
func equalLists(a, b []api.Rat) bool {
	return slices.EqualFunc(a, b, equalNumbers)
}

// equalAnswers reports whether two answers are the same.
func equalAnswers(a, b api.Answer) bool {
	return a.Kind == b.Kind && equalLists(a.X, b.X) && equalLists(a.Y, b.Y) && equalNumbers(a.Value, b.Value)
}

// empty reports whether an answer is zero.
func empty(a api.Answer) bool {
	return equalAnswers(a, api.Answer{})
}

// equalPrograms reports whether two programs are the same.
func equalPrograms(p, q api.Program) bool {
	return p.Vars == q.Vars && equalLists(p.Goal, q.Goal) && slices.EqualFunc(p.Lines, q.Lines, func(k, l api.Line) bool {
		return equalLists(k.A, l.A) && equalNumbers(k.B, l.B)
	})
}

// source returns numbers without a pattern, the same ones in each run of a test.
func source(name string) *rand.Rand {
	var seed [32]byte
	copy(seed[:], name)
	return rand.New(rand.NewChaCha8(seed))
}

// A kind of numbers.
type kind func(r *rand.Rand) *big.Rat

// few returns one of few integers.
func few(r *rand.Rand) *big.Rat {
	return fraction(int64(r.IntN(3)-1), 1)
}

// plain returns an integer or a number with a small denominator.
func plain(r *rand.Rand) *big.Rat {
	return fraction(int64(r.IntN(25)-12), []int64{1, 1, 1, 2, 3, 10}[r.IntN(6)])
}

// rare returns 0 in most cases.
func rare(r *rand.Rand) *big.Rat {
	if r.IntN(4) > 0 {
		return new(big.Rat)
	}
	return plain(r)
}

// unusual returns a number that is often 0, or far longer than others.
func unusual(r *rand.Rand) *big.Rat {
	switch r.IntN(5) {
	case 0:
		return new(big.Rat)
	case 1:
		return fraction(r.Int64()-1<<62, 1+r.Int64N(1<<40))
	case 2:
		n := new(big.Int).Mul(big.NewInt(r.Int64()-1<<62), big.NewInt(r.Int64()))
		return new(big.Rat).SetFrac(n, big.NewInt(1+r.Int64N(1<<50)))
	}
	return plain(r)
}

// kinds returns all kinds of numbers.
func kinds() []kind {
	return []kind{few, plain, rare, unusual}
}

// someVector returns a vector of numbers of a kind.
func someVector(r *rand.Rand, n int, number kind) []*big.Rat {
	x := make([]*big.Rat, n)
	for k := range x {
		x[k] = number(r)
	}
	return x
}

// share returns a number from 0 on, often 0.
func share(r *rand.Rand) *big.Rat {
	return fraction(int64(max(0, r.IntN(9)-3)), int64(1+r.IntN(3)))
}

// some returns a program of numbers of a kind. Its sides are those of a kind, too, and greater the higher the rise.
func some(r *rand.Rand, vars, lines int, number kind, rise int64) model {
	m := model{goal: someVector(r, vars, number)}
	for range lines {
		b := new(big.Rat).Add(number(r), fraction(rise, 1))
		m.lines = append(m.lines, line{someVector(r, vars, number), b})
	}
	return m
}

// someBounded returns a program and the greatest value of its goal: the goal is a sum of lines that hold at a point with equality.
func someBounded(r *rand.Rand, vars, lines int, number kind) (model, *big.Rat) {
	m, x, y := some(r, vars, lines, number, 0), someVector(r, vars, number), someVector(r, lines, share)
	for i, l := range m.lines {
		l.b.Set(inner(l.a, x))
		if y[i].Sign() == 0 {
			l.b.Add(l.b, share(r))
		}
	}
	m.goal = sumOf(vars, y, m.normals()...)
	return m, inner(m.goal, x)
}

// someInfeasible returns a program without a point: the last line together with some of the others says that 0 is negative.
func someInfeasible(r *rand.Rand, vars, lines int, number kind) model {
	m, y := some(r, vars, lines-1, number, 0), someVector(r, lines-1, share)
	last := line{times(sumOf(vars, y, m.normals()...), fraction(-1, 1)), new(big.Rat).Neg(inner(y, m.sides()))}
	last.b.Sub(last.b, fraction(1, 1+r.Int64N(1000)))
	return m.with(last)
}

// someUnbounded returns a program with a point and a direction in which the goal grows without end.
func someUnbounded(r *rand.Rand, vars, lines int, number kind) model {
	m, x, ray := some(r, vars, lines, number, 0), someVector(r, vars, number), someVector(r, vars, number)
	for inner(m.goal, ray).Sign() <= 0 {
		ray, m.goal = someVector(r, vars, number), someVector(r, vars, number)
	}
	for i, l := range m.lines {
		if inner(l.a, ray).Sign() > 0 {
			m.lines[i].a = times(l.a, fraction(-1, 1))
		}
		m.lines[i].b = new(big.Rat).Add(inner(m.lines[i].a, x), share(r))
	}
	return m
}

// shuffled returns a program with its lines and its variables in another order.
func shuffled(r *rand.Rand, m model) model {
	places := r.Perm(len(m.goal))
	moved := func(x []*big.Rat) []*big.Rat {
		y := make([]*big.Rat, len(x))
		for k, place := range places {
			y[k] = x[place]
		}
		return y
	}
	n := model{goal: moved(m.goal)}
	for _, i := range r.Perm(len(m.lines)) {
		n.lines = append(n.lines, line{moved(m.lines[i].a), m.lines[i].b})
	}
	return n
}

// possible reports whether a point satisfies all lines of a small program, by leaving out one variable after the other: each two lines that bound it from both sides leave one without it.
func (m model) possible() bool {
	lines := m.lines
	for k := range m.goal {
		var rest, above, below []line
		for _, l := range lines {
			switch s := l.a[k].Sign(); {
			case s == 0:
				rest = append(rest, l)
				continue
			case s > 0:
				above = append(above, scaledLine(l, new(big.Rat).Inv(l.a[k])))
			default:
				below = append(below, scaledLine(l, new(big.Rat).Inv(new(big.Rat).Neg(l.a[k]))))
			}
		}
		for _, u := range above {
			for _, l := range below {
				rest = append(rest, line{plus(u.a, l.a), new(big.Rat).Add(u.b, l.b)})
			}
		}
		lines = rest
	}
	return !slices.ContainsFunc(lines, func(l line) bool { return l.b.Sign() < 0 })
}

// scaledLine returns a line times a number.
func scaledLine(l line, by *big.Rat) line {
	return line{times(l.a, by), new(big.Rat).Mul(l.b, by)}
}
