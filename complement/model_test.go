package complement_test

import (
	"math/big"
	"math/rand/v2"
	"slices"
	"strings"
	"testing"
	"time"

	"gantry/api"
	"gantry/complement"
	"gantry/integer"
)

// A vector is a list of numbers of the oracle.
type vector []*big.Rat

// A problem is one of the oracle.
type problem struct {
	m []vector
	q vector
}

// fraction returns n / d.
func fraction(n, d int64) *big.Rat {
	return big.NewRat(n, d)
}

// whole returns a vector of integers.
func whole(l ...int) vector {
	v := make(vector, len(l))
	for i, n := range l {
		v[i] = fraction(int64(n), 1)
	}
	return v
}

// zeros returns a vector of zeros.
func zeros(n int) vector {
	return whole(make([]int, n)...)
}

// of returns a problem of integers: q, and the rows of m.
func of(q []int, rows ...[]int) problem {
	p := problem{q: whole(q...)}
	for _, l := range rows {
		p.m = append(p.m, whole(l...))
	}
	return p
}

// plus, minus, times and over calculate with numbers.
func plus(a, b *big.Rat) *big.Rat  { return new(big.Rat).Add(a, b) }
func minus(a, b *big.Rat) *big.Rat { return new(big.Rat).Sub(a, b) }
func times(a, b *big.Rat) *big.Rat { return new(big.Rat).Mul(a, b) }
func over(a, b *big.Rat) *big.Rat  { return new(big.Rat).Quo(a, b) }

// inner returns the inner product.
func inner(x, y vector) *big.Rat {
	sum := new(big.Rat)
	for i, a := range x {
		sum.Add(sum, times(a, y[i]))
	}
	return sum
}

// scaled returns a vector times a number.
func (v vector) scaled(by *big.Rat) vector {
	l := make(vector, len(v))
	for i, a := range v {
		l[i] = times(a, by)
	}
	return l
}

// same reports whether two vectors are equal.
func (v vector) same(other vector) bool {
	return slices.EqualFunc(v, other, func(a, b *big.Rat) bool { return a.Cmp(b) == 0 })
}

// fair reports whether no number is negative.
func (v vector) fair() bool {
	return !slices.ContainsFunc(v, func(a *big.Rat) bool { return a.Sign() < 0 })
}

// with returns a vector with another number at a place.
func (v vector) with(i int, a *big.Rat) vector {
	l := slices.Clone(v)
	l[i] = a
	return l
}

// column returns a column of the matrix.
func (p problem) column(k int) vector {
	var l vector
	for _, row := range p.m {
		l = append(l, row[k])
	}
	return l
}

// scaled returns the problem with m and q multiplied by numbers.
func (p problem) scaled(m, q *big.Rat) problem {
	s := problem{q: p.q.scaled(q)}
	for _, row := range p.m {
		s.m = append(s.m, row.scaled(m))
	}
	return s
}

// w returns w of a list z.
func (p problem) w(z vector) vector {
	l := make(vector, len(p.q))
	for i, a := range p.q {
		l[i] = plus(a, inner(p.m[i], z))
	}
	return l
}

// solution reports whether a list is a solution.
func (p problem) solution(z vector) bool {
	if len(z) != len(p.q) {
		return false
	}
	w := p.w(z)
	for i := range z {
		if z[i].Sign() != 0 && w[i].Sign() != 0 {
			return false
		}
	}
	return z.fair() && w.fair()
}

// refutation reports whether a list is a refutation.
func (p problem) refutation(y vector) bool {
	if len(y) != len(p.q) || !y.fair() || inner(y, p.q).Sign() >= 0 {
		return false
	}
	for k := range y {
		if inner(y, p.column(k)).Sign() > 0 {
			return false
		}
	}
	return true
}

// A result is what Solve is to return.
type result struct {
	z, w   vector
	pivots int
	e      api.Errno
}

// lemke returns the result of the procedure of the chapter, on the whole tableau.
func (p problem) lemke(most int) result {
	n := len(p.q)
	if p.q.fair() {
		return result{zeros(n), p.q, 0, api.OK}
	}
	z0, side := 2*n, 2*n+1
	rows := make([]vector, n)
	basic := make([]int, n)
	for i := range rows {
		rows[i] = zeros(2*n + 2)
		rows[i][i].SetInt64(1)
		for k, a := range p.m[i] {
			rows[i][n+k].Neg(a)
		}
		rows[i][z0].SetInt64(-1)
		rows[i][side].Set(p.q[i])
		basic[i] = i
	}
	key := func(i int) vector { return slices.Concat(vector{rows[i][side]}, rows[i][:n]) }
	number := func(a, b *big.Rat) int { return a.Cmp(b) }
	top := 0
	for i := range rows {
		if slices.CompareFunc(key(i), key(top), number) < 0 {
			top = i
		}
	}
	pivots := 0
	for enters := z0; ; {
		if pivots == most {
			return result{e: api.ErrFuel}
		}
		pivots++
		rows[top] = rows[top].scaled(over(fraction(1, 1), rows[top][enters]))
		for i, row := range rows {
			if by := row[enters]; i != top && by.Sign() != 0 {
				rows[i] = make(vector, len(row))
				for k, a := range row {
					rows[i][k] = minus(a, times(by, rows[top][k]))
				}
			}
		}
		leaves := basic[top]
		basic[top] = enters
		if leaves == z0 {
			break
		}
		enters = (leaves + n) % (2 * n)
		top = -1
		var best vector
		for i := range rows {
			if c := rows[i][enters]; c.Sign() > 0 {
				quotient := key(i).scaled(over(fraction(1, 1), c))
				if top < 0 || slices.CompareFunc(quotient, best, number) < 0 {
					top, best = i, quotient
				}
			}
		}
		if top < 0 {
			return result{e: api.ErrRay}
		}
	}
	values := zeros(2*n + 1)
	for i, variable := range basic {
		values[variable] = rows[i][side]
	}
	return result{values[n : 2*n], values[:n], pivots, api.OK}
}

// only returns the only x with a x = b for a square matrix, if there is exactly one.
func only(a []vector, b vector) (vector, bool) {
	n := len(b)
	rows := make([]vector, n)
	for i := range rows {
		rows[i] = append(slices.Clone(a[i]), b[i])
	}
	for k := range n {
		found := slices.IndexFunc(rows[k:], func(row vector) bool { return row[k].Sign() != 0 })
		if found < 0 {
			return nil, false
		}
		rows[k], rows[k+found] = rows[k+found], rows[k]
		rows[k] = rows[k].scaled(over(fraction(1, 1), rows[k][k]))
		for i, row := range rows {
			if i != k {
				rows[i] = make(vector, n+1)
				for j, c := range row {
					rows[i][j] = minus(c, times(row[k], rows[k][j]))
				}
			}
		}
	}
	x := make(vector, n)
	for i, row := range rows {
		x[i] = row[n]
	}
	return x, true
}

// all returns the solutions of all choices, as the chapter says it: n equations for z and w, of which each says that z or w is 0 at a place.
func (p problem) all() []vector {
	n := len(p.q)
	var l []vector
	for choice := range 1 << n {
		var a []vector
		var b vector
		for i := range n {
			if choice&(1<<i) != 0 {
				a, b = append(a, p.m[i]), append(b, new(big.Rat).Neg(p.q[i]))
			} else {
				a, b = append(a, zeros(n).with(i, fraction(1, 1))), append(b, new(big.Rat))
			}
		}
		z, found := only(a, b)
		if found && p.solution(z) && !slices.ContainsFunc(l, z.same) {
			l = append(l, z)
		}
	}
	return l
}

// possible reports whether there is a list z >= 0 with m z + q >= 0, for small problems: it leaves out one number after the other, as each two conditions that bound it from both sides leave one without it.
func (p problem) possible() bool {
	n := len(p.q)
	// A condition says that the sum of a number times z, and the last number, is not negative.
	var conditions []vector
	for i, row := range p.m {
		conditions = append(conditions, append(slices.Clone(row), p.q[i]), zeros(n+1).with(i, fraction(1, 1)))
	}
	for k := range n {
		var rest, up, down []vector
		for _, c := range conditions {
			switch c[k].Sign() {
			case 0:
				rest = append(rest, c)
			case 1:
				up = append(up, c.scaled(over(fraction(1, 1), c[k])))
			default:
				down = append(down, c.scaled(over(fraction(-1, 1), c[k])))
			}
		}
		for _, a := range up {
			for _, b := range down {
				sum := make(vector, n+1)
				for i := range sum {
					sum[i] = plus(a[i], b[i])
				}
				rest = append(rest, sum)
			}
		}
		conditions = rest
	}
	return !slices.ContainsFunc(conditions, func(c vector) bool { return c[n].Sign() < 0 })
}

// text returns the text of vectors.
func text(l ...vector) string {
	var words []string
	for _, v := range l {
		words = append(words, "(")
		for _, a := range v {
			words = append(words, a.RatString())
		}
		words = append(words, ")")
	}
	s := strings.Join(words, " ")
	return s[:min(len(s), 1500)]
}

// String returns q and the rows of m.
func (p problem) String() string {
	return "q " + text(p.q) + " m " + text(p.m...)
}

// digits returns the integer of a number.
func digits(x api.Int) *big.Int {
	n := new(big.Int)
	for _, d := range slices.Backward(x.D) {
		n.Mul(n, big.NewInt(api.Base))
		n.Add(n, big.NewInt(int64(d)))
	}
	if x.Neg {
		n.Neg(n)
	}
	return n
}

// exact returns numbers of the program for the oracle.
func exact(l []api.Rat) vector {
	v := make(vector, len(l))
	for i, a := range l {
		if len(a.Q.D) == 0 {
			v[i] = new(big.Rat).SetInt(digits(a.P))
		} else {
			v[i] = new(big.Rat).SetFrac(digits(a.P), digits(a.Q))
		}
	}
	return v
}

// digitsOf returns an integer of the program.
func digitsOf(n *big.Int) api.Int {
	x, e := integer.Parse(n.String())
	if e != api.OK {
		panic(e)
	}
	return x
}

// list returns a vector of the program, in memory of its own without any room behind it.
func (v vector) list() []api.Rat {
	l := make([]api.Rat, len(v))
	for i, a := range v {
		l[i].P = digitsOf(a.Num())
		if !a.IsInt() {
			l[i].Q = digitsOf(a.Denom())
		}
	}
	return l
}

// lists returns a problem of the program.
func (p problem) lists() ([][]api.Rat, []api.Rat) {
	m := make([][]api.Rat, len(p.m))
	for i, row := range p.m {
		m[i] = row.list()
	}
	return m, p.q.list()
}

// equalNumbers reports whether two numbers have the same P and Q.
func equalNumbers(a, b api.Rat) bool {
	return a.P.Neg == b.P.Neg && a.Q.Neg == b.Q.Neg && slices.Equal(a.P.D, b.P.D) && slices.Equal(a.Q.D, b.Q.D)
}

// equal reports whether two lists have the same numbers.
func equal(a, b []api.Rat) bool {
	return slices.EqualFunc(a, b, equalNumbers)
}

// unchanged tests that lists are still those of a problem.
func (p problem) unchanged(t *testing.T, m [][]api.Rat, q []api.Rat) {
	t.Helper()
	was, side := p.lists()
	if !slices.EqualFunc(m, was, equal) || !equal(q, side) {
		t.Fatal("a function changes its arguments:", p)
	}
}

// soon calls a function that has to end within a minute, which is many times what it needs.
func soon(t *testing.T, f func()) {
	t.Helper()
	done := make(chan struct{})
	go func() {
		defer close(done)
		f()
	}()
	late := time.NewTimer(time.Minute)
	defer late.Stop()
	select {
	case <-done:
	case <-late.C:
		t.Fatal("P1: it does not end")
	}
}

// enough is more pivots than the problems of the tests need.
const enough = 1 << 13

// solve tests what Solve returns, and returns it.
func (p problem) solve(t *testing.T, most int, want result) {
	t.Helper()
	m, q := p.lists()
	var c api.Complement
	var e api.Errno
	soon(t, func() { c, e = complement.Solve(m, q, most) })
	z, w := exact(c.Z), exact(c.W)
	if e != want.e || !z.same(want.z) || !w.same(want.w) || c.Pivots != want.pivots {
		t.Fatal("P11.1: Solve of", p, "with most", most, "returns", e, text(z, w), c.Pivots, "not", want.e, text(want.z, want.w), want.pivots)
	}
	if !equal(c.Z, z.list()) || !equal(c.W, w.list()) {
		t.Fatal("P11.1: Solve of", p, "returns numbers that are not valid")
	}
	p.unchanged(t, m, q)
	if e == api.OK && (!complement.Check(m, q, c.Z) || !w.same(p.w(z))) {
		t.Fatal("P11.5: Solve of", p, "returns", text(z, w))
	}
}

// solves tests Solve with enough pivots, and with too few of them, against the procedure of the chapter.
func (p problem) solves(t *testing.T) result {
	t.Helper()
	want := p.lemke(enough)
	p.solve(t, enough, want)
	if want.e == api.OK {
		p.solve(t, want.pivots, want)
		if want.pivots > 0 {
			p.solve(t, want.pivots-1, result{e: api.ErrFuel})
			p.solve(t, 0, result{e: api.ErrFuel})
		}
	}
	return want
}

// choices tests what All returns, and returns it.
func (p problem) choices(t *testing.T) []vector {
	t.Helper()
	m, q := p.lists()
	l, e := complement.All(m, q)
	want := p.all()
	if e != api.OK || len(l) != len(want) {
		t.Fatal("P11.3: All of", p, "returns", e, len(l), "lists, not", text(want...))
	}
	for i, z := range l {
		if !equal(z, want[i].list()) {
			t.Fatal("P11.3: All of", p, "returns", text(exact(z)), "not", text(want[i]))
		}
	}
	p.unchanged(t, m, q)
	return want
}

// refuted tests what Refute returns if it is known whether there is a refutation.
func (p problem) refuted(t *testing.T, want bool) {
	t.Helper()
	m, q := p.lists()
	var y []api.Rat
	var e api.Errno
	soon(t, func() { y, e = complement.Refute(m, q) })
	v := exact(y)
	p.unchanged(t, m, q)
	if !want {
		if e != api.ErrNone || len(y) > 0 {
			t.Fatal("P11.4: Refute of", p, "returns", e, text(v))
		}
		return
	}
	if e != api.OK || !p.refutation(v) || !equal(y, v.list()) {
		t.Fatal("P11.4: Refute of", p, "returns", e, text(v))
	}
	if !complement.Refuted(m, q, y) {
		t.Fatal("P11.4: Refuted refuses what Refute returns of", p, text(v))
	}
}

// source returns numbers without a pattern, the same ones in each run of a test.
func source(name string) *rand.Rand {
	var seed [32]byte
	copy(seed[:], name)
	return rand.New(rand.NewChaCha8(seed))
}

// A kind of numbers.
type kind func(r *rand.Rand) *big.Rat

// few returns one of few integers.
func few(r *rand.Rand) *big.Rat {
	return fraction(int64(r.IntN(3)-1), 1)
}

// plain returns an integer or a number with a small denominator.
func plain(r *rand.Rand) *big.Rat {
	return fraction(int64(r.IntN(25)-12), []int64{1, 1, 1, 2, 3, 10}[r.IntN(6)])
}

// rare returns 0 in most cases.
func rare(r *rand.Rand) *big.Rat {
	if r.IntN(3) > 0 {
		return new(big.Rat)
	}
	return plain(r)
}

// unusual returns a number that is often 0, or far longer than others.
func unusual(r *rand.Rand) *big.Rat {
	switch r.IntN(5) {
	case 0:
		return new(big.Rat)
	case 1:
		return fraction(r.Int64()-1<<62, 1+r.Int64N(1<<40))
	case 2:
		n := new(big.Int).Mul(big.NewInt(r.Int64()-1<<62), big.NewInt(r.Int64()))
		return new(big.Rat).SetFrac(n, big.NewInt(1+r.Int64N(1<<50)))
	}
	return plain(r)
}

// kinds returns all kinds of numbers.
func kinds() []kind {
	return []kind{few, plain, rare, unusual}
}

// some returns a vector of numbers of a kind.
func some(r *rand.Rand, n int, number kind) vector {
	v := make(vector, n)
	for i := range v {
		v[i] = number(r)
	}
	return v
}

// share returns a number from 0 on, often 0.
func share(r *rand.Rand) *big.Rat {
	return fraction(int64(max(0, r.IntN(9)-4)), int64(1+r.IntN(3)))
}

// A form of matrices.
type form func(r *rand.Rand, n int, number kind) []vector

// general returns any matrix.
func general(r *rand.Rand, n int, number kind) []vector {
	m := make([]vector, n)
	for i := range m {
		m[i] = some(r, n, number)
	}
	return m
}

// product returns the product of a matrix with some rows, which is turned, and the matrix.
func product(r *rand.Rand, n, rows int, number kind) []vector {
	a := make([]vector, n)
	for i := range a {
		a[i] = some(r, rows, number)
	}
	m := make([]vector, n)
	for i := range m {
		m[i] = make(vector, n)
		for k := range n {
			m[i][k] = inner(a[i], a[k])
		}
	}
	return m
}

// low returns a product with a low rank.
func low(r *rand.Rand, n int, number kind) []vector {
	return product(r, n, r.IntN(n/2+2), number)
}

// definite returns a symmetric and positive definite matrix.
func definite(r *rand.Rand, n int, number kind) []vector {
	m := product(r, n, r.IntN(n+2), number)
	for i := range m {
		m[i][i].Add(m[i][i], fraction(1, 1+r.Int64N(4)))
	}
	return m
}

// fair returns a matrix without negative numbers, and with positive ones at the places of equal numbers.
func fair(r *rand.Rand, n int, number kind) []vector {
	m := general(r, n, number)
	for i, row := range m {
		for _, a := range row {
			a.Abs(a)
		}
		m[i][i].Add(m[i][i], fraction(1, 2))
	}
	return m
}

// rubbing returns a matrix like those of contacts with friction, with a row for each of N, F+, F- and G, as far as there is room.
func rubbing(r *rand.Rand, n int, number kind) []vector {
	contacts := (n + 3) / 4
	inertia := product(r, 2*contacts, contacts+1, number)
	m := make([]vector, n)
	for i := range m {
		m[i] = make(vector, n)
		for k := range n {
			m[i][k] = friction(inertia, i, k, r.Int64N(4))
		}
	}
	return m
}

// friction returns an element of the matrix of contacts with friction.
func friction(inertia []vector, i, k int, rough int64) *big.Rat {
	if i%4 == 3 || k%4 == 3 {
		table := [4][4]int64{3: {rough, -2, -2, 0}, 1: {3: 2}, 2: {3: 2}}
		if i/4 != k/4 {
			return new(big.Rat)
		}
		return fraction(table[i%4][k%4], 2)
	}
	place := func(i int) int { return i/4*2 + (i%4+1)/2 }
	a := new(big.Rat).Set(inertia[place(i)][place(k)])
	if (i%4 == 2) != (k%4 == 2) {
		a.Neg(a)
	}
	return a
}

// forms returns all forms of matrices.
func forms() []form {
	return []form{general, low, definite, fair, rubbing}
}

// sides returns a list q: of a kind, with few different numbers, or such that there is a solution.
func sides(r *rand.Rand, m []vector, number kind) vector {
	n := len(m)
	switch r.IntN(4) {
	case 0:
		return some(r, n, few)
	case 1:
		q := some(r, n, share)
		for _, a := range q {
			a.Neg(a)
		}
		return q
	case 2:
		z, w := some(r, n, share), some(r, n, share)
		for i := range w {
			if z[i].Sign() > 0 {
				w[i].SetInt64(0)
			}
		}
		q := problem{m, w}.w(z.scaled(fraction(-1, 1)))
		return q
	}
	return some(r, n, number)
}

// problems returns a number of problems of all forms and kinds with n from low to high.
func problems(name string, count, low, high int) []problem {
	r := source(name)
	var l []problem
	for i := range count {
		number := kinds()[i%4]
		m := forms()[i/4%5](r, low+r.IntN(high-low+1), number)
		l = append(l, problem{m, sides(r, m, number)})
	}
	return l
}
