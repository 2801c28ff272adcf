package matrix_test

import (
	"math/big"
	"slices"
	"testing"

	"gantry/api"
	"gantry/matrix"
	"gantry/rat"
)

// rankOf tests Rank.
func rankOf(t *testing.T, m model, want int) {
	t.Helper()
	if n, e := matrix.Rank(m.program()); e != api.OK || n != want {
		t.Fatal("P9.3: Rank of", text(m), n, e, "not", want)
	}
}

// detOf tests Det.
func detOf(t *testing.T, m model, want *big.Rat) {
	t.Helper()
	d, e := matrix.Det(m.program())
	sameNumber(t, "P9.3: Det", d, e, want, m)
}

// kernelOf tests Kernel.
func kernelOf(t *testing.T, m model, want model) {
	t.Helper()
	l, e := matrix.Kernel(m.program())
	same(t, "P9.5: Kernel", l, e, want, m)
}

// inverseOf tests Inverse.
func inverseOf(t *testing.T, m model, want model) {
	t.Helper()
	c, e := matrix.Inverse(m.program())
	same(t, "P9.6: Inverse", c, e, want, m)
}

// singular tests that there is no inverse.
func singular(t *testing.T, m model) {
	t.Helper()
	if c, e := matrix.Inverse(m.program()); e != api.ErrNone || len(c) > 0 {
		t.Fatal("P9.6: Inverse of", text(m), e, text(c))
	}
}

// solutionOf tests Solve.
func solutionOf(t *testing.T, m model, b []*big.Rat, want []*big.Rat) {
	t.Helper()
	x, e := matrix.Solve(m.program(), list(b))
	sameVector(t, "P9.4: Solve", x, e, want, m, b)
}

// unsolvable tests that there is no solution.
func unsolvable(t *testing.T, m model, b []*big.Rat) {
	t.Helper()
	if x, e := matrix.Solve(m.program(), list(b)); e != api.ErrNone || len(x) > 0 {
		t.Fatal("P9.4: Solve of", text(m, b), e, text(x))
	}
}

// positiveIs tests Positive.
func positiveIs(t *testing.T, m model, want bool) {
	t.Helper()
	if matrix.Positive(m.program()) != want {
		t.Fatal("P9.7: Positive of", text(m), "is not", want)
	}
}

// The examples of the chapter.
func TestExamples(t *testing.T) {
	m := of([]int{1, 2, 3}, []int{2, 4, 7})
	rankOf(t, m, 2)
	solutionOf(t, m, vector(1, 3), vector(-2, 0, 1))
	kernelOf(t, m, of([]int{-2, 1, 0}))
	unsolvable(t, of([]int{2, 4}, []int{1, 2}), vector(1, 1))
	n := of([]int{2, 1}, []int{1, 2})
	detOf(t, n, big.NewRat(3, 1))
	third := big.NewRat(1, 3)
	inverseOf(t, n, filled(2, 2, func(i, k int) *big.Rat {
		return new(big.Rat).Mul(third, of([]int{2, -1}, []int{-1, 2}).rows[i][k])
	}))
	positiveIs(t, n, true)
	positiveIs(t, of([]int{1, 2}, []int{2, 1}), false)
}

// checked tests all functions with a small matrix, by the definitions.
func checked(t *testing.T, m model) {
	t.Helper()
	columns := pivots(m)
	rankOf(t, m, len(columns))
	l, e := matrix.Kernel(m.program())
	if e != api.OK || len(l) != m.columns-len(columns) {
		t.Fatal("P9.5: Kernel of", text(m), e, len(l))
	}
	next := 0
	for k := range m.columns {
		if slices.Contains(columns, k) {
			continue
		}
		x := l[next]
		next++
		y, e := matrix.Apply(m.program(), x)
		sameVector(t, "P9.5: an element of Kernel applied to", y, e, zeros(1, len(m.rows)).rows[0], m)
		for j := range m.columns {
			want := rat.Of(0, 1)
			if j == k {
				want = rat.Of(1, 1)
			}
			if !slices.Contains(columns, j) && !equalNumbers(x[j], want) {
				t.Fatal("P9.5: an element of Kernel in a free column", text(m), text(x))
			}
		}
	}
	if len(m.rows) != m.columns {
		return
	}
	d := det(m)
	detOf(t, m, d)
	positiveIs(t, m, positive(m))
	if d.Sign() == 0 {
		singular(t, m)
		return
	}
	c, e := matrix.Inverse(m.program())
	if e != api.OK {
		t.Fatal("P9.6: Inverse of", text(m), e)
	}
	both, e := matrix.Mul(c, m.program())
	same(t, "P9.6: the product with Inverse", both, e, unit(m.columns), m)
}

// checkedSide tests Solve with a small matrix, by the definition.
func checkedSide(t *testing.T, m model, b []*big.Rat) {
	t.Helper()
	columns := pivots(m)
	if rank(beside(m, upright(b))) > len(columns) {
		unsolvable(t, m, b)
		return
	}
	x, e := matrix.Solve(m.program(), list(b))
	if e != api.OK || len(x) != m.columns {
		t.Fatal("P9.4: Solve of", text(m, b), e, len(x))
	}
	for k, n := range x {
		if !rat.Valid(n) || !slices.Contains(columns, k) && !equalNumbers(n, api.Rat{}) {
			t.Fatal("P9.4: a solution of", text(m, b), text(x))
		}
	}
	y, e := matrix.Apply(m.program(), x)
	sameVector(t, "P9.4: a solution applied to", y, e, b, m)
}

// P9.3 to P9.7, P9.9: all small matrices.
func TestSmall(t *testing.T) {
	for rows := 1; rows <= 3; rows++ {
		for columns := 1; columns <= 3; columns++ {
			l := []int64{-1, 0, 1, 2}
			switch {
			case rows*columns > 6:
				l = []int64{0, 1}
			case rows*columns > 4:
				l = []int64{-1, 0, 2}
			}
			for _, m := range small(rows, columns, l...) {
				checked(t, m)
				checkedSide(t, m, vector(1, 0, 0)[:rows])
				checkedSide(t, m, vector(1, 2, -1)[:rows])
				checkedSide(t, m, vector(0, 0, 2)[:rows])
				checkedSide(t, m, vector(0, 0, 0)[:rows])
			}
		}
	}
}

// P9.3 to P9.7, P9.9: matrices of all kinds of numbers.
func TestAny(t *testing.T) {
	r := source("Any")
	for i := range 600 {
		number := kinds()[i%4]
		m := some(r, 1+r.IntN(5), 1+r.IntN(5), number)
		checked(t, m)
		checkedSide(t, m, some(r, 1, len(m.rows), number).rows[0])
		checkedSide(t, m, times(m, some(r, 1, m.columns, number).rows[0]))
	}
}

// P9.4: a b of another length.
func TestSolveLengths(t *testing.T) {
	r := source("SolveLengths")
	for rows := 1; rows < 5; rows++ {
		for columns := 1; columns < 5; columns++ {
			m := some(r, rows, columns, plain)
			for _, n := range []int{0, rows - 1, rows + 1, 64, 65} {
				if x, e := matrix.Solve(m.program(), make([]api.Rat, n)); e != api.ErrArg || len(x) > 0 {
					t.Fatal("P9.4: Solve", text(m, n), e)
				}
			}
		}
	}
}

// known tests all functions with a known matrix.
func (x known) test(t *testing.T) {
	t.Helper()
	rankOf(t, x.m, len(x.pivots))
	rankOf(t, turned(x.m), len(x.pivots))
	kernelOf(t, x.m, x.kernel())
	r := source("known")
	side, want := zeros(1, len(x.m.rows)).rows[0], zeros(1, x.m.columns).rows[0]
	for i, pivot := range x.pivots {
		side[i] = plain(r)
		want[pivot] = side[i]
	}
	b := times(x.left.m, side)
	solutionOf(t, x.m, b, want)
	// P9.9: any other solution leads to the same one.
	for _, v := range x.kernel().rows {
		more := zeros(1, x.m.columns).rows[0]
		for k := range more {
			more[k].Add(want[k], new(big.Rat).Mul(v[k], big.NewRat(3, 2)))
		}
		if again := times(x.m, more); !equalVectors(list(again), list(b)) {
			t.Fatal("P9.9: another solution of", text(x.m, b))
		}
	}
	for i := len(x.pivots); i < len(side); i++ {
		side[i].SetInt64(int64(1 - 2*(i%2)))
		unsolvable(t, x.m, times(x.left.m, side))
		side[i].SetInt64(0)
	}
	if len(x.m.rows) == x.m.columns && len(x.pivots) < x.m.columns {
		singular(t, x.m)
		detOf(t, x.m, new(big.Rat))
		positiveIs(t, x.m, false)
	}
}

// P9.3 to P9.5, P9.9: matrices whose pivots are known.
func TestKnown(t *testing.T) {
	r := source("Known")
	for range 300 {
		rows, columns := 1+r.IntN(9), 1+r.IntN(9)
		someKnown(r, rows, columns, r.IntN(min(rows, columns)+1)).test(t)
	}
	for _, size := range [][3]int{{64, 64, 40}, {64, 20, 20}, {20, 64, 19}, {1, 64, 1}, {64, 1, 1}, {64, 64, 0}, {33, 64, 33}} {
		someKnown(r, size[0], size[1], size[2]).test(t)
	}
}

// P9.3, P9.6, P9.10: matrices whose inverse is known.
func TestRegular(t *testing.T) {
	r := source("Regular")
	test := func(n, steps int) {
		t.Helper()
		x := someRegular(r, n, steps)
		detOf(t, x.m, x.det)
		inverseOf(t, x.m, x.inverse)
		inverseOf(t, x.inverse, x.m)
		rankOf(t, x.m, n)
		kernelOf(t, x.m, model{})
		b := some(r, 1, n, plain).rows[0]
		solutionOf(t, x.m, b, times(x.inverse, b))
		positiveIs(t, product(x.m, turned(x.m)), true)
	}
	for n := 1; n <= 9; n++ {
		for range 30 {
			test(n, 4*n)
		}
	}
	test(20, 200)
	test(64, 200)
}

// P9.3: matrices whose determinants are products.
func TestDet(t *testing.T) {
	for _, n := range []int{1, 2, 3, 10, 30} {
		// The number k to the power i.
		powers := filled(n, n, func(i, k int) *big.Rat {
			return new(big.Rat).SetInt(new(big.Int).Exp(big.NewInt(int64(k)), big.NewInt(int64(i)), nil))
		})
		want := big.NewRat(1, 1)
		for i := range n {
			for k := range i {
				want.Mul(want, big.NewRat(int64(i-k), 1))
			}
		}
		detOf(t, powers, want)
		// 1 / (i + k + 1).
		fractions := filled(n, n, func(i, k int) *big.Rat { return big.NewRat(1, int64(i+k+1)) })
		want.Mul(want, want)
		for i := range n {
			for k := range n {
				want.Mul(want, fractions.rows[i][k])
			}
		}
		detOf(t, fractions, want)
		positiveIs(t, fractions, true)
		// All orders of the rows.
		falling := filled(n, n, func(i, k int) *big.Rat { return unit(n).rows[n-1-i][k] })
		detOf(t, falling, big.NewRat(int64(1-2*(n*(n-1)/2%2)), 1))
		positiveIs(t, falling, n == 1)
		inverseOf(t, falling, falling)
	}
}

// P9.7: symmetric matrices that are positive definite, and what a small change makes of them.
func TestPositive(t *testing.T) {
	r := source("Positive")
	for range 300 {
		n := 1 + r.IntN(6)
		x := someRegular(r, n, 2*n)
		m := product(product(x.m, diagonal(n, func(int) *big.Rat { return primes(r) })), turned(x.m))
		positiveIs(t, m, true)
		// One of the numbers of the diagonal is 0 or negative.
		at := r.IntN(n)
		for _, bad := range []*big.Rat{new(big.Rat), big.NewRat(-1, 1000), big.NewRat(-5, 1)} {
			parts := diagonal(n, func(i int) *big.Rat {
				if i == at {
					return bad
				}
				return primes(r)
			})
			positiveIs(t, parts, false)
			positiveIs(t, product(product(x.m, parts), turned(x.m)), false)
		}
		// Just one of two elements differs.
		i, k := r.IntN(n), r.IntN(n)
		if i != k {
			m.rows[i][k].Add(m.rows[i][k], big.NewRat(1, 1000000))
			positiveIs(t, m, false)
		}
	}
	positiveIs(t, of([]int{0}), false)
	positiveIs(t, of([]int{1}), true)
	positiveIs(t, of([]int{-1}), false)
	// Two exchanges of rows, and pivots that are positive then.
	positiveIs(t, of([]int{0, 1, 0, 0}, []int{1, 0, 0, 0}, []int{0, 0, 0, 1}, []int{0, 0, 1, 0}), false)
	positiveIs(t, of([]int{0, 1}, []int{1, 0}), false)
	positiveIs(t, of([]int{-1, 0}, []int{0, -1}), false)
	positiveIs(t, of([]int{1, 1}, []int{1, 1}), false)
	positiveIs(t, of([]int{1, 0}, []int{1, 1}), false)
	positiveIs(t, of([]int{1, 1}, []int{0, 1}), false)
}

// diagonal returns a matrix that is 0 outside of its diagonal.
func diagonal(n int, element func(i int) *big.Rat) model {
	return filled(n, n, func(i, k int) *big.Rat {
		if i == k {
			return element(i)
		}
		return new(big.Rat)
	})
}

// P9.11.
func TestSquares(t *testing.T) {
	r := source("Squares")
	test := func(m model) {
		t.Helper()
		a := m.program()
		n, e := matrix.Rank(a)
		turnedA, f := matrix.Turn(a)
		square, g := matrix.Mul(turnedA, a)
		if e != api.OK || f != api.OK || g != api.OK || matrix.Positive(square) != (n == m.columns) {
			t.Fatal("P9.11: the square of", text(m), n)
		}
	}
	for i := range 400 {
		test(some(r, 1+r.IntN(6), 1+r.IntN(6), kinds()[i%4]))
		rows, columns := 1+r.IntN(7), 1+r.IntN(7)
		test(someKnown(r, rows, columns, r.IntN(min(rows, columns)+1)).m)
	}
	test(some(r, 64, 64, few))
	test(some(r, 40, 39, plain))
	test(some(r, 20, 21, unusual))
}

// P9.9, P9.10: what the functions say of any matrix agrees.
func TestAgree(t *testing.T) {
	r := source("Agree")
	for i := range 200 {
		n := 1 + r.IntN(8)
		m := some(r, n, n, kinds()[i%4])
		a := m.program()
		rank, _ := matrix.Rank(a)
		basis, _ := matrix.Kernel(a)
		if rank+len(basis) != n {
			t.Fatal("P9.9: the rank and the number of vectors of", text(m), rank, len(basis))
		}
		d, _ := matrix.Det(a)
		inverse, e := matrix.Inverse(a)
		if (e == api.OK) != (rat.Sign(d) != 0) || (e == api.OK) != (rank == n) {
			t.Fatal("P9.10: the inverse of", text(m), e, text(d))
		}
		if e != api.OK {
			continue
		}
		b := list(some(r, 1, n, plain).rows[0])
		x, e := matrix.Solve(a, b)
		y, f := matrix.Apply(inverse, b)
		if e != api.OK || f != api.OK || !equalVectors(x, y) {
			t.Fatal("P9.10: the solution of", text(m))
		}
	}
}
