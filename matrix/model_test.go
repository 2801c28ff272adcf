package matrix_test

import (
	"fmt"
	"math/big"
	"math/bits"
	"math/rand/v2"
	"slices"
	"strings"
	"testing"

	"gantry/api"
	"gantry/integer"
)

// A model is a matrix of the oracle: its rows, and the number of its columns, also if there are no rows.
type model struct {
	rows    [][]*big.Rat
	columns int
}

// of returns a matrix of integers.
func of(rows ...[]int) model {
	var m model
	for _, row := range rows {
		var l []*big.Rat
		for _, n := range row {
			l = append(l, big.NewRat(int64(n), 1))
		}
		m.rows, m.columns = append(m.rows, l), len(row)
	}
	return m
}

// vector returns a vector of integers.
func vector(l ...int) []*big.Rat {
	return of(l).rows[0]
}

// zeros returns a matrix of zeros.
func zeros(rows, columns int) model {
	m := model{columns: columns}
	for range rows {
		l := make([]*big.Rat, columns)
		for k := range l {
			l[k] = new(big.Rat)
		}
		m.rows = append(m.rows, l)
	}
	return m
}

// filled returns a matrix of the elements that a function returns.
func filled(rows, columns int, element func(i, k int) *big.Rat) model {
	m := zeros(rows, columns)
	for i, row := range m.rows {
		for k := range row {
			row[k].Set(element(i, k))
		}
	}
	return m
}

func unit(n int) model {
	return filled(n, n, func(i, k int) *big.Rat {
		if i == k {
			return big.NewRat(1, 1)
		}
		return new(big.Rat)
	})
}

func turned(m model) model {
	return filled(m.columns, len(m.rows), func(i, k int) *big.Rat { return m.rows[k][i] })
}

func product(m, n model) model {
	return filled(len(m.rows), n.columns, func(i, k int) *big.Rat {
		sum := new(big.Rat)
		for j, a := range m.rows[i] {
			sum.Add(sum, new(big.Rat).Mul(a, n.rows[j][k]))
		}
		return sum
	})
}

// upright returns a vector as a matrix with one column.
func upright(l []*big.Rat) model {
	return filled(len(l), 1, func(i, _ int) *big.Rat { return l[i] })
}

// times returns a vector multiplied by a matrix.
func times(m model, x []*big.Rat) []*big.Rat {
	var l []*big.Rat
	for _, row := range product(m, upright(x)).rows {
		l = append(l, row[0])
	}
	return l
}

// beside returns a matrix that has the columns of both.
func beside(m, n model) model {
	return filled(len(m.rows), m.columns+n.columns, func(i, k int) *big.Rat {
		if k < m.columns {
			return m.rows[i][k]
		}
		return n.rows[i][k-m.columns]
	})
}

// first returns the first columns of a matrix.
func first(m model, columns int) model {
	return filled(len(m.rows), columns, func(i, k int) *big.Rat { return m.rows[i][k] })
}

// minors returns all determinants of the first rows of a square part: for each set of columns, as many rows as it has elements. It expands them by the last row.
func minors(rows [][]*big.Rat, columns int) []*big.Rat {
	l := make([]*big.Rat, 1<<columns)
	for set := range l {
		n := bits.OnesCount(uint(set))
		l[set] = new(big.Rat)
		if n == 0 {
			l[set].SetInt64(1)
		}
		if n == 0 || n > len(rows) {
			continue
		}
		sign := int64(1 - 2*((n-1)%2))
		for k := range columns {
			if set>>k&1 == 1 {
				part := new(big.Rat).Mul(rows[n-1][k], l[set&^(1<<k)])
				l[set].Add(l[set], part.Mul(part, big.NewRat(sign, 1)))
				sign = -sign
			}
		}
	}
	return l
}

// det returns the determinant of a small matrix.
func det(m model) *big.Rat {
	l := minors(m.rows, m.columns)
	return l[len(l)-1]
}

// rank returns the rank of a small matrix: that of the greatest square part with a determinant other than 0.
func rank(m model) int {
	most := 0
	for set := range 1 << len(m.rows) {
		var rows [][]*big.Rat
		for i, row := range m.rows {
			if set>>i&1 == 1 {
				rows = append(rows, row)
			}
		}
		for columns, d := range minors(rows, m.columns) {
			if bits.OnesCount(uint(columns)) == len(rows) && d.Sign() != 0 {
				most = max(most, len(rows))
			}
		}
	}
	return most
}

// pivots returns the columns of a small matrix that are not sums of multiples of the columns before them.
func pivots(m model) []int {
	var l []int
	for k := range m.columns {
		if rank(first(m, k+1)) > len(l) {
			l = append(l, k)
		}
	}
	return l
}

// positive reports whether a small matrix is symmetric, and has positive determinants of all parts of first rows and columns.
func positive(m model) bool {
	if len(m.rows) != m.columns || !equal(m.program(), turned(m).program()) {
		return false
	}
	l := minors(m.rows, m.columns)
	for n := range m.columns {
		if l[1<<(n+1)-1].Sign() <= 0 {
			return false
		}
	}
	return true
}

// whole returns an integer of the program.
func whole(n *big.Int) api.Int {
	x, e := integer.Parse(n.String())
	if e != api.OK {
		panic(e)
	}
	return x
}

// canonical returns a number as chapter 5 describes it.
func canonical(n *big.Rat) api.Rat {
	a := api.Rat{P: whole(n.Num())}
	if !n.IsInt() {
		a.Q = whole(n.Denom())
	}
	return a
}

// list returns a vector of the program, in memory of its own without any room behind it.
func list(l []*big.Rat) []api.Rat {
	v := make([]api.Rat, len(l))
	for k, n := range l {
		v[k] = canonical(n)
	}
	return v
}

// program returns a matrix of the program.
func (m model) program() [][]api.Rat {
	a := make([][]api.Rat, len(m.rows))
	for i, row := range m.rows {
		a[i] = list(row)
	}
	return a
}

// String returns the rows.
func (m model) String() string {
	var rows []string
	for _, row := range m.rows {
		rows = append(rows, vectorText(row))
	}
	return "[" + strings.Join(rows, " ") + "]"
}

func vectorText(l []*big.Rat) string {
	var words []string
	for _, n := range l {
		words = append(words, n.RatString())
	}
	return "(" + strings.Join(words, ", ") + ")"
}

// text describes arguments.
func text(l ...any) string {
	var words []string
	for _, x := range l {
		if v, ok := x.([]*big.Rat); ok {
			x = vectorText(v)
		}
		words = append(words, fmt.Sprint(x))
	}
	s := strings.Join(words, ", ")
	return s[:min(len(s), 600)]
}

// equalNumbers reports whether two numbers have the same P and Q.
func equalNumbers(a, b api.Rat) bool {
	return a.P.Neg == b.P.Neg && a.Q.Neg == b.Q.Neg && slices.Equal(a.P.D, b.P.D) && slices.Equal(a.Q.D, b.Q.D)
}

// equalVectors reports whether two vectors have the same elements.
func equalVectors(x, y []api.Rat) bool {
	return slices.EqualFunc(x, y, equalNumbers)
}

// equal reports whether two matrices have the same elements.
func equal(a, b [][]api.Rat) bool {
	return slices.EqualFunc(a, b, equalVectors)
}

// same tests a matrix that a function returned for some arguments.
func same(t *testing.T, name string, got [][]api.Rat, e api.Errno, want model, of ...any) {
	t.Helper()
	if e != api.OK || !equal(got, want.program()) {
		t.Fatalf("%s of %s: %s (error %d), not %s", name, text(of...), text(got), e, text(want))
	}
}

// sameVector tests a vector that a function returned for some arguments.
func sameVector(t *testing.T, name string, got []api.Rat, e api.Errno, want []*big.Rat, of ...any) {
	t.Helper()
	if e != api.OK || !equalVectors(got, list(want)) {
		t.Fatalf("%s of %s: %s (error %d), not %s", name, text(of...), text(got), e, text(want))
	}
}

// sameNumber tests a number that a function returned for some arguments.
func sameNumber(t *testing.T, name string, got api.Rat, e api.Errno, want *big.Rat, of ...any) {
	t.Helper()
	if e != api.OK || !equalNumbers(got, canonical(want)) {
		t.Fatalf("%s of %s: %s (error %d), not %s", name, text(of...), text(got), e, text(want))
	}
}

// source returns numbers without a pattern, the same ones in each run of a test.
func source(name string) *rand.Rand {
	var seed [32]byte
	copy(seed[:], name)
	return rand.New(rand.NewChaCha8(seed))
}

// A kind of numbers.
type kind func(r *rand.Rand) *big.Rat

// few returns one of few integers.
func few(r *rand.Rand) *big.Rat {
	return big.NewRat(int64(r.IntN(3)-1), 1)
}

// plain returns an integer or a number with a small denominator.
func plain(r *rand.Rand) *big.Rat {
	return big.NewRat(int64(r.IntN(25)-12), []int64{1, 1, 1, 2, 3, 10}[r.IntN(6)])
}

// unusual returns a number that is often 0, or far longer than others.
func unusual(r *rand.Rand) *big.Rat {
	switch r.IntN(5) {
	case 0:
		return new(big.Rat)
	case 1:
		return big.NewRat(r.Int64()-1<<62, 1+r.Int64N(1<<40))
	case 2:
		n := new(big.Int).Mul(big.NewInt(r.Int64()-1<<62), big.NewInt(r.Int64()))
		return new(big.Rat).SetFrac(n, big.NewInt(1+r.Int64N(1<<50)))
	}
	return plain(r)
}

// primes returns a number whose integers are small primes.
func primes(r *rand.Rand) *big.Rat {
	l := []int64{2, 3, 5, 7, 11, 13, 17, 19, 23}
	return big.NewRat(l[r.IntN(len(l))], l[r.IntN(len(l))])
}

// kinds returns all kinds of numbers.
func kinds() []kind {
	return []kind{few, plain, unusual, primes}
}

// some returns a matrix of numbers of a kind.
func some(r *rand.Rand, rows, columns int, number kind) model {
	return filled(rows, columns, func(int, int) *big.Rat { return number(r) })
}

// small returns all matrices of a size with elements of a few integers.
func small(rows, columns int, l ...int64) []model {
	count := 1
	for range rows * columns {
		count *= len(l)
	}
	var all []model
	for n := range count {
		all = append(all, filled(rows, columns, func(int, int) *big.Rat {
			digit := n % len(l)
			n /= len(l)
			return big.NewRat(l[digit], 1)
		}))
	}
	return all
}

// A regular matrix has an inverse; both and the determinant are known.
type regular struct {
	m, inverse model
	det        *big.Rat
}

// someRegular returns a regular matrix that is made of the unit matrix by adding multiples of rows to others, and exchanging and multiplying some.
func someRegular(r *rand.Rand, n int, steps int) regular {
	x := regular{unit(n), unit(n), big.NewRat(1, 1)}
	for range steps {
		i, k := r.IntN(n), r.IntN(n)
		if i == k {
			x.multiply(i, big.NewRat(int64(1+r.IntN(4))*int64(1-2*r.IntN(2)), int64(1+r.IntN(3))))
			continue
		}
		if r.IntN(4) == 0 {
			x.exchange(i, k)
		}
		x.add(i, k, big.NewRat(int64(r.IntN(5)-2), 1))
	}
	return x
}

// multiply multiplies the row i by a number.
func (x *regular) multiply(i int, by *big.Rat) {
	for k := range x.m.columns {
		x.m.rows[i][k].Mul(x.m.rows[i][k], by)
		x.inverse.rows[k][i].Quo(x.inverse.rows[k][i], by)
	}
	x.det.Mul(x.det, by)
}

// exchange exchanges two rows.
func (x *regular) exchange(i, k int) {
	x.m.rows[i], x.m.rows[k] = x.m.rows[k], x.m.rows[i]
	for _, row := range x.inverse.rows {
		row[i], row[k] = row[k], row[i]
	}
	x.det.Neg(x.det)
}

// add adds a multiple of the row k to the row i.
func (x *regular) add(i, k int, by *big.Rat) {
	for j := range x.m.columns {
		x.m.rows[i][j].Add(x.m.rows[i][j], new(big.Rat).Mul(by, x.m.rows[k][j]))
		x.inverse.rows[j][k].Sub(x.inverse.rows[j][k], new(big.Rat).Mul(by, x.inverse.rows[j][i]))
	}
}

// A known matrix has known pivots: it is a regular matrix times stairs, in which each row up to the rank has a 1 in the column of its pivot and zeros before it, and each pivot is alone in its column.
type known struct {
	m      model
	left   regular
	stairs model
	pivots []int
}

// someKnown returns a known matrix.
func someKnown(r *rand.Rand, rows, columns, rank int) known {
	x := known{left: someRegular(r, rows, 3*rows), stairs: zeros(rows, columns)}
	x.pivots = slices.Sorted(slices.Values(r.Perm(columns)[:rank]))
	for i, pivot := range x.pivots {
		for k := pivot; k < columns; k++ {
			if !slices.Contains(x.pivots, k) {
				x.stairs.rows[i][k] = plain(r)
			}
		}
		x.stairs.rows[i][pivot].SetInt64(1)
	}
	x.m = product(x.left.m, x.stairs)
	return x
}

// kernel returns what Kernel returns for a known matrix.
func (x known) kernel() model {
	l := model{columns: x.m.columns}
	for k := range x.m.columns {
		if slices.Contains(x.pivots, k) {
			continue
		}
		v := zeros(1, x.m.columns).rows[0]
		v[k].SetInt64(1)
		for i, pivot := range x.pivots {
			v[pivot].Neg(x.stairs.rows[i][k])
		}
		l.rows = append(l.rows, v)
	}
	return l
}

// The models agree with each other.
func TestModels(t *testing.T) {
	r := source("Models")
	for range 200 {
		n := 1 + r.IntN(5)
		x := someRegular(r, n, 2*n)
		if !equal(product(x.m, x.inverse).program(), unit(n).program()) || !equal(product(x.inverse, x.m).program(), unit(n).program()) {
			t.Fatal("the inverse of", text(x.m, x.inverse))
		}
		if det(x.m).Cmp(x.det) != 0 {
			t.Fatal("the determinant of", text(x.m, x.det))
		}
		columns := 1 + r.IntN(5)
		k := someKnown(r, n, columns, r.IntN(min(n, columns)+1))
		if !slices.Equal(pivots(k.m), k.pivots) || rank(turned(k.m)) != len(k.pivots) {
			t.Fatal("the pivots of", text(k.m, k.pivots))
		}
		for _, v := range k.kernel().rows {
			if !equalVectors(list(times(k.m, v)), list(zeros(1, n).rows[0])) {
				t.Fatal("the kernel of", text(k.m, v))
			}
		}
	}
}
