package matrix_test

import (
	"testing"

	"gantry/api"
	"gantry/integer"
	"gantry/matrix"
	"gantry/rat"
)

// blank returns a matrix of zeros whose rows have the given lengths.
func blank(lengths ...int) [][]api.Rat {
	a := make([][]api.Rat, len(lengths))
	for i, n := range lengths {
		a[i] = make([]api.Rat, n)
	}
	return a
}

// equally returns n equal numbers.
func equally(n, length int) []int {
	l := make([]int, n)
	for i := range l {
		l[i] = length
	}
	return l
}

// valid returns matrices of all kinds of forms.
func valid() [][][]api.Rat {
	return [][][]api.Rat{
		nil,
		{},
		{nil},
		{{}},
		{nil, {}, nil},
		blank(1),
		blank(2, 2),
		blank(3, 3),
		blank(2, 2, 2),
		blank(64),
		blank(equally(3, 64)...),
		blank(equally(64, 0)...),
		blank(equally(64, 1)...),
		blank(equally(64, 63)...),
		blank(equally(64, 64)...),
	}
}

// notValid returns lists of rows that are no valid matrices.
func notValid() [][][]api.Rat {
	short, long := equally(64, 64), equally(64, 64)
	short[63], long[63] = 63, 65
	return [][][]api.Rat{
		blank(65),
		blank(1000),
		blank(65, 65),
		blank(equally(64, 65)...),
		blank(equally(65, 0)...),
		blank(equally(65, 1)...),
		blank(equally(65, 64)...),
		blank(equally(65, 65)...),
		blank(equally(5000, 2)...),
		blank(1, 0),
		blank(0, 1),
		blank(0, 2),
		blank(1, 2),
		blank(2, 1),
		blank(3, 3, 2),
		blank(3, 2, 3),
		blank(2, 3, 3),
		blank(2, 2, 3),
		blank(0, 0, 1),
		blank(64, 65),
		blank(65, 64),
		blank(short...),
		blank(long...),
		{nil, {{}}},
		{{{}}, nil},
	}
}

// P9.1.
func TestValid(t *testing.T) {
	for i, a := range valid() {
		if !matrix.Valid(a) {
			t.Error("P9.1: Valid", i)
		}
	}
	for i, a := range notValid() {
		if matrix.Valid(a) {
			t.Error("P9.1: Valid", i, "of what is not valid")
		}
	}
}

// numbered returns elements for a matrix of any size.
func numbered(n int) []api.Rat {
	l := make([]api.Rat, n)
	for i := range l {
		l[i] = rat.Of(i+1, 2)
	}
	return l
}

// None of the functions takes a matrix that is not valid.
func TestNotValid(t *testing.T) {
	for i, a := range notValid() {
		var fits [][]api.Rat
		for range len(a[0]) {
			fits = append(fits, numbered(2))
		}
		for _, b := range [][][]api.Rat{nil, {{}}, a, fits, blank(1), blank(equally(64, 64)...)} {
			if c, e := matrix.Mul(a, b); e != api.ErrArg || len(c) > 0 {
				t.Error("P9.2: Mul", i, e)
			}
			if c, e := matrix.Mul(b, a); e != api.ErrArg || len(c) > 0 {
				t.Error("P9.2: Mul by", i, e)
			}
		}
		for _, n := range []int{0, 1, len(a), len(a[0]), len(a[len(a)-1])} {
			if x, e := matrix.Apply(a, numbered(n)); e != api.ErrArg || len(x) > 0 {
				t.Error("P9.2: Apply", i, e)
			}
			if x, e := matrix.Solve(a, make([]api.Rat, n)); e != api.ErrArg || len(x) > 0 {
				t.Error("P9.4: Solve", i, e)
			}
		}
		if c, e := matrix.Turn(a); e != api.ErrArg || len(c) > 0 {
			t.Error("P9.1: Turn", i, e)
		}
		if d, e := matrix.Det(a); e != api.ErrArg || !equalNumbers(d, api.Rat{}) {
			t.Error("P9.3: Det", i, e)
		}
		if n, e := matrix.Rank(a); e != api.ErrArg || n != 0 {
			t.Error("P9.3: Rank", i, e)
		}
		if l, e := matrix.Kernel(a); e != api.ErrArg || len(l) > 0 {
			t.Error("P9.5: Kernel", i, e)
		}
		if c, e := matrix.Inverse(a); e != api.ErrArg || len(c) > 0 {
			t.Error("P9.6: Inverse", i, e)
		}
		if matrix.Positive(a) {
			t.Error("P9.7: Positive", i)
		}
	}
}

// P9.3, P9.6, P9.7: matrices that are not square.
func TestNotSquare(t *testing.T) {
	r := source("NotSquare")
	for rows := range 5 {
		for columns := range 5 {
			if rows == columns || rows == 0 {
				continue
			}
			m := some(r, rows, columns, plain)
			if d, e := matrix.Det(m.program()); e != api.ErrArg || !equalNumbers(d, api.Rat{}) {
				t.Error("P9.3: Det", text(m), e)
			}
			if c, e := matrix.Inverse(m.program()); e != api.ErrArg || len(c) > 0 {
				t.Error("P9.6: Inverse", text(m), e)
			}
			if matrix.Positive(m.program()) || matrix.Positive(first(unit(max(rows, columns)), columns).program()[:rows]) {
				t.Error("P9.7: Positive", text(m))
			}
		}
	}
}

// All functions of matrices without elements.
func TestNoElements(t *testing.T) {
	for i, a := range [][][]api.Rat{nil, {}} {
		if c, e := matrix.Turn(a); e != api.OK || len(c) > 0 {
			t.Error("P9.1: Turn", i, e, c)
		}
		for _, b := range [][][]api.Rat{nil, {}} {
			if c, e := matrix.Mul(a, b); e != api.OK || len(c) > 0 {
				t.Error("P9.2: Mul", i, e, c)
			}
		}
		for _, b := range [][][]api.Rat{{{}}, blank(1), blank(2, 2)} {
			if c, e := matrix.Mul(a, b); e != api.ErrArg || len(c) > 0 {
				t.Error("P9.2: Mul", i, e, c)
			}
		}
		if x, e := matrix.Apply(a, nil); e != api.OK || len(x) > 0 {
			t.Error("P9.2: Apply", i, e, x)
		}
		if x, e := matrix.Apply(a, numbered(1)); e != api.ErrArg || len(x) > 0 {
			t.Error("P9.2: Apply", i, e, x)
		}
		if d, e := matrix.Det(a); e != api.OK || !equalNumbers(d, rat.Of(1, 1)) {
			t.Error("P9.3: Det", i, e, d)
		}
		if n, e := matrix.Rank(a); e != api.OK || n != 0 {
			t.Error("P9.3: Rank", i, e, n)
		}
		if x, e := matrix.Solve(a, []api.Rat{}); e != api.OK || len(x) > 0 {
			t.Error("P9.4: Solve", i, e, x)
		}
		if x, e := matrix.Solve(a, make([]api.Rat, 1)); e != api.ErrArg || len(x) > 0 {
			t.Error("P9.4: Solve", i, e, x)
		}
		if l, e := matrix.Kernel(a); e != api.OK || len(l) > 0 {
			t.Error("P9.5: Kernel", i, e, l)
		}
		if c, e := matrix.Inverse(a); e != api.OK || len(c) > 0 {
			t.Error("P9.6: Inverse", i, e, c)
		}
		if !matrix.Positive(a) {
			t.Error("P9.7: Positive", i)
		}
	}
}

// All functions of matrices with rows, but without columns.
func TestNoColumns(t *testing.T) {
	for _, rows := range []int{1, 2, 3, 64} {
		a := blank(equally(rows, 0)...)
		if c, e := matrix.Turn(a); e != api.OK || len(c) > 0 {
			t.Error("P9.1: Turn", rows, e, c)
		}
		c, e := matrix.Mul(a, nil)
		same(t, "P9.2: Mul", c, e, zeros(rows, 0), rows)
		c, e = matrix.Mul(zeros(5, rows).program(), a)
		same(t, "P9.2: Mul", c, e, zeros(5, 0), rows)
		if c, e := matrix.Mul(a, a); e != api.ErrArg || len(c) > 0 {
			t.Error("P9.2: Mul", rows, e, c)
		}
		x, e := matrix.Apply(a, nil)
		sameVector(t, "P9.2: Apply", x, e, zeros(1, rows).rows[0], rows)
		if d, e := matrix.Det(a); e != api.ErrArg || !equalNumbers(d, api.Rat{}) {
			t.Error("P9.3: Det", rows, e, d)
		}
		if n, e := matrix.Rank(a); e != api.OK || n != 0 {
			t.Error("P9.3: Rank", rows, e, n)
		}
		if x, e := matrix.Solve(a, make([]api.Rat, rows)); e != api.OK || len(x) > 0 {
			t.Error("P9.4: Solve", rows, e, x)
		}
		b := make([]api.Rat, rows)
		b[rows-1] = rat.Of(-1, 3)
		if x, e := matrix.Solve(a, b); e != api.ErrNone || len(x) > 0 {
			t.Error("P9.4: Solve", rows, e, x)
		}
		if x, e := matrix.Solve(a, b[1:]); e != api.ErrArg || len(x) > 0 {
			t.Error("P9.4: Solve", rows, e, x)
		}
		if l, e := matrix.Kernel(a); e != api.OK || len(l) > 0 {
			t.Error("P9.5: Kernel", rows, e, l)
		}
		if c, e := matrix.Inverse(a); e != api.ErrArg || len(c) > 0 {
			t.Error("P9.6: Inverse", rows, e, c)
		}
		if matrix.Positive(a) {
			t.Error("P9.7: Positive", rows)
		}
	}
}

// P9.1, P9.2: matrices of all sizes and numbers.
func TestProducts(t *testing.T) {
	r := source("Products")
	test := func(rows, between, columns int, number kind) {
		t.Helper()
		m, n := some(r, rows, between, number), some(r, between, columns, number)
		a, b := m.program(), n.program()
		c, e := matrix.Mul(a, b)
		same(t, "P9.2: Mul", c, e, product(m, n), m, n)
		c, e = matrix.Turn(a)
		same(t, "P9.1: Turn", c, e, turned(m), m)
		x := some(r, 1, between, number).rows[0]
		y, e := matrix.Apply(a, list(x))
		sameVector(t, "P9.2: Apply", y, e, times(m, x), m, x)
		for _, wrong := range []int{0, between - 1, between + 1, between + 64} {
			if wrong == between || wrong < 0 {
				continue
			}
			if y, e := matrix.Apply(a, numbered(wrong)); e != api.ErrArg || len(y) > 0 {
				t.Fatal("P9.2: Apply to a vector of another length", text(m, wrong), e)
			}
			if c, e := matrix.Mul(a, blank(equally(wrong, columns)...)); e != api.ErrArg || len(c) > 0 {
				t.Fatal("P9.2: Mul by a matrix of another size", text(m, wrong), e)
			}
		}
		if !equal(a, m.program()) || !equal(b, n.program()) {
			t.Fatal("an argument was changed:", text(m, n))
		}
	}
	for _, number := range kinds() {
		for rows := 1; rows < 5; rows++ {
			for between := 1; between < 5; between++ {
				for columns := 1; columns < 5; columns++ {
					test(rows, between, columns, number)
				}
			}
		}
	}
	test(64, 64, 64, plain)
	test(64, 64, 1, unusual)
	test(1, 64, 64, few)
	test(64, 1, 64, plain)
}

// P9.8: for all matrices whose sizes fit.
func TestProductsProperties(t *testing.T) {
	r := source("ProductsProperties")
	must := func(a [][]api.Rat, e api.Errno) [][]api.Rat {
		t.Helper()
		if e != api.OK {
			t.Fatal("P9.8:", e)
		}
		return a
	}
	for i := range 300 {
		number := kinds()[i%4]
		n := 1 + r.IntN(5)
		m := some(r, n, 1+r.IntN(5), number)
		l := some(r, m.columns, n, number)
		k := some(r, n, 1+r.IntN(5), number)
		a, b, c := m.program(), l.program(), k.program()
		left := must(matrix.Mul(must(matrix.Mul(a, b)), c))
		right := must(matrix.Mul(a, must(matrix.Mul(b, c))))
		if !equal(left, right) {
			t.Fatal("P9.8: Mul is not associative:", text(m, l, k))
		}
		left = must(matrix.Turn(must(matrix.Mul(a, b))))
		right = must(matrix.Mul(must(matrix.Turn(b)), must(matrix.Turn(a))))
		if !equal(left, right) {
			t.Fatal("P9.8: Turn of a product", text(m, l))
		}
		rank, _ := matrix.Rank(a)
		if other, e := matrix.Rank(must(matrix.Turn(a))); e != api.OK || other != rank {
			t.Fatal("P9.8: the rank of a turned matrix", text(m), e)
		}
		s, u := some(r, n, n, number), some(r, n, n, number)
		first, e := matrix.Det(s.program())
		second, f := matrix.Det(u.program())
		both, g := matrix.Det(must(matrix.Mul(s.program(), u.program())))
		if e != api.OK || f != api.OK || g != api.OK || !equalNumbers(both, rat.Mul(first, second)) {
			t.Fatal("P9.8: the determinant of a product", text(s, u))
		}
	}
}

// Results are the caller's, and their rows share no memory.
func TestMemory(t *testing.T) {
	r := source("Memory")
	x := someKnown(r, 4, 6, 3)
	s := someRegular(r, 4, 20)
	a, b := x.m.program(), s.m.program()
	for i, call := range []func() ([][]api.Rat, api.Errno){
		func() ([][]api.Rat, api.Errno) { return matrix.Mul(b, a) },
		func() ([][]api.Rat, api.Errno) { return matrix.Turn(a) },
		func() ([][]api.Rat, api.Errno) { return matrix.Kernel(a) },
		func() ([][]api.Rat, api.Errno) { return matrix.Inverse(b) },
		func() ([][]api.Rat, api.Errno) { return matrix.Inverse(unit(4).program()) },
	} {
		c, e := call()
		again, _ := call()
		if e != api.OK || len(c) < 2 || !equal(c, again) {
			t.Fatal("results differ:", i, e)
		}
		_ = append(c[0], rat.Of(7, 5))
		if !equal(c, again) {
			t.Error("rows share memory:", i)
		}
		clear(c[0])
		if !equal(c[1:], again[1:]) {
			t.Error("rows share memory:", i)
		}
		clear(c)
		if next, _ := call(); !equal(next, again) {
			t.Error("a result shares memory:", i)
		}
	}
	one := vector(1, 2, 3, 4)
	y := list(one)
	z, _ := matrix.Solve(b, y)
	clear(z)
	z, _ = matrix.Apply(b, y)
	clear(z)
	if !equal(a, x.m.program()) || !equal(b, s.m.program()) || !equalVectors(y, list(one)) {
		t.Error("an argument was changed")
	}
}

// What is no number has no specified result, but each call returns.
func TestNotNumbers(t *testing.T) {
	bad := []api.Rat{
		{P: api.Int{Neg: true}},
		{P: api.Int{D: []int{0}}},
		{P: api.Int{D: []int{-1 << 62, -5}}},
		{P: api.Int{D: []int{api.Base * 3, 1, 0, 0}}},
		{P: integer.Of(3), Q: api.Int{Neg: true, D: []int{7, 0}}},
		{P: integer.Of(2), Q: integer.Of(4)},
		{P: integer.Of(1), Q: integer.Of(1)},
		{Q: api.Int{D: []int{api.Base * 3}}},
		{P: integer.Of(-5), Q: api.Int{D: []int{0, 0}}},
	}
	r := source("NotNumbers")
	number := func() api.Rat {
		if r.IntN(3) == 0 {
			return bad[r.IntN(len(bad))]
		}
		return canonical(kinds()[r.IntN(4)](r))
	}
	for range 1000 {
		rows, columns := 1+r.IntN(5), 1+r.IntN(5)
		if r.IntN(2) == 0 {
			columns = rows
		}
		a, b := blank(equally(rows, columns)...), blank(equally(columns, rows)...)
		for i := range a {
			for k := range a[i] {
				a[i][k], b[k][i] = number(), number()
			}
		}
		if r.IntN(2) == 0 {
			b, _ = matrix.Turn(a)
		}
		matrix.Valid(a)
		matrix.Mul(a, b)
		matrix.Apply(a, b[0][:0])
		matrix.Apply(b, a[0][:min(columns, rows)])
		matrix.Det(a)
		matrix.Rank(a)
		matrix.Solve(a, b[0])
		matrix.Kernel(a)
		matrix.Inverse(a)
		matrix.Positive(a)
		c, _ := matrix.Mul(a, b)
		matrix.Positive(c)
		matrix.Inverse(c)
	}
}
