package complement_test

import (
	"math"
	"math/big"
	"slices"
	"testing"

	"gantry/api"
	"gantry/complement"
	"gantry/rat"
)

// grid calls a function with all lists of n integers from low to high.
func grid(n, low, high int, f func(v vector)) {
	if n == 0 {
		f(nil)
		return
	}
	grid(n-1, low, high, func(v vector) {
		for value := low; value <= high; value++ {
			f(append(slices.Clone(v), fraction(int64(value), 1)))
		}
	})
}

// small calls a function with all problems of n pairs and of few integers.
func small(n, low, high, sides int, f func(p problem)) {
	grid(n*n, low, high, func(m vector) {
		grid(n, -sides, sides, func(q vector) {
			f(problem{slices.Collect(slices.Chunk(m, max(1, n))), q})
		})
	})
}

// checks tests Check and Refuted with a list.
func (p problem) checks(t *testing.T, l vector) {
	t.Helper()
	m, q := p.lists()
	z := l.list()
	if got := complement.Check(m, q, z); got != p.solution(l) {
		t.Fatal("P11.2: Check of", p, text(l), "is", got)
	}
	if got := complement.Refuted(m, q, z); got != p.refutation(l) {
		t.Fatal("P11.4: Refuted of", p, text(l), "is", got)
	}
	p.unchanged(t, m, q)
	if !equal(z, l.list()) {
		t.Fatal("Check or Refuted changes its argument", text(l))
	}
}

// P11.2, P11.4: all small problems with all small lists.
func TestCheckSmall(t *testing.T) {
	problem{}.checks(t, nil)
	small(1, -2, 2, 3, func(p problem) {
		grid(1, -2, 3, func(l vector) { p.checks(t, l) })
	})
	small(2, -1, 1, 1, func(p problem) {
		grid(2, -1, 2, func(l vector) { p.checks(t, l) })
	})
}

// spoiled returns lists that differ from one in a single number.
func spoiled(l vector) []vector {
	var all []vector
	for i, a := range l {
		tiny := new(big.Rat).SetFrac(big.NewInt(1), new(big.Int).Lsh(big.NewInt(1), 100))
		for _, b := range []*big.Rat{new(big.Rat), fraction(1, 1), fraction(-1, 7), new(big.Rat).Neg(a), plus(a, tiny), minus(a, tiny)} {
			all = append(all, l.with(i, b))
		}
	}
	return all
}

// P11.2: solutions, and lists that differ from them.
func TestCheck(t *testing.T) {
	accepted := 0
	for _, p := range problems("Check", 160, 1, 6) {
		for _, z := range append(p.all(), zeros(len(p.q))) {
			if p.solution(z) {
				accepted++
			}
			p.checks(t, z)
			for _, l := range spoiled(z) {
				p.checks(t, l)
			}
		}
	}
	for _, p := range problems("CheckWide", 8, 32, 32) {
		z := some(source("CheckWide"), 32, share)
		p.q = p.w(z.scaled(fraction(-1, 1)))
		p.checks(t, z)
		for _, l := range spoiled(z)[:18] {
			p.checks(t, l)
		}
	}
	if accepted < 80 {
		t.Error("too few solutions:", accepted)
	}
}

// P11.2, P11.4: lists of another length.
func TestCheckLength(t *testing.T) {
	for n := range 4 {
		p := problem{make([]vector, n), zeros(n)}
		for i := range n {
			p.m[i] = whole(-1, -1, -1)[:n]
			p.q[i].SetInt64(-1)
		}
		for length := range 6 {
			ones := whole(slices.Repeat([]int{1}, length)...)
			p.checks(t, zeros(length))
			p.checks(t, ones)
			problem{p.m, zeros(n)}.checks(t, zeros(length))
		}
	}
}

// odd returns integers most of which are not valid, and those that are make numbers that are not.
func odd() []api.Int {
	return []api.Int{
		{}, {Neg: true}, {D: []int{1, 0}}, {D: []int{0}}, {D: []int{-5}}, {D: []int{api.Base}}, {Neg: true, D: []int{1 << 62, 3}},
		{D: []int{3, -1 << 63}}, {D: []int{1}}, {D: []int{2}}, {Neg: true, D: []int{4}},
	}
}

// broken returns numbers that are not valid.
func broken() []api.Rat {
	var l []api.Rat
	for _, p := range odd() {
		for _, q := range odd() {
			if a := (api.Rat{P: p, Q: q}); !rat.Valid(a) {
				l = append(l, a)
			}
		}
	}
	return l
}

// P1, P11.2, P11.4: lists with numbers that are not valid.
func TestCheckNotValid(t *testing.T) {
	m, q := of([]int{0, 0}, []int{0, 0}, []int{0, 0}).lists()
	p, s := of([]int{-1, -1}, []int{-1, 0}, []int{0, -1}).lists()
	for _, a := range broken() {
		for i := range 2 {
			l := []api.Rat{rat.Of(1, 1), rat.Of(1, 1)}
			if !complement.Check(m, q, l) || !complement.Refuted(p, s, l) {
				t.Fatal("P11.2, P11.4: right lists are refused")
			}
			l[i] = a
			if complement.Check(m, q, l) || complement.Check(p, s, l) {
				t.Error("P11.2: Check accepts a number that is not valid")
			}
			if complement.Refuted(m, q, l) || complement.Refuted(p, s, l) {
				t.Error("P11.4: Refuted accepts a number that is not valid")
			}
		}
	}
}

// refused tests that all functions refuse a problem.
func refused(t *testing.T, m [][]api.Rat, q []api.Rat) {
	t.Helper()
	soon(t, func() {
		for _, most := range []int{0, enough, -1} {
			if c, e := complement.Solve(m, q, most); e != api.ErrArg || len(c.Z) > 0 || len(c.W) > 0 || c.Pivots != 0 {
				t.Error("P11.1: Solve of a problem that is not valid:", e, c)
			}
		}
		ones := func(n int) []api.Rat { return slices.Repeat([]api.Rat{rat.Of(1, 1)}, n) }
		for _, l := range [][]api.Rat{nil, make([]api.Rat, len(q)), make([]api.Rat, len(m)), ones(len(q)), ones(len(m))} {
			if complement.Check(m, q, l) {
				t.Error("P11.2: Check of a problem that is not valid")
			}
			if complement.Refuted(m, q, l) {
				t.Error("P11.4: Refuted of a problem that is not valid")
			}
		}
		if l, e := complement.All(m, q); e != api.ErrArg || len(l) > 0 {
			t.Error("P11.3: All of a problem that is not valid:", e, l)
		}
		if y, e := complement.Refute(m, q); e != api.ErrArg || len(y) > 0 {
			t.Error("P11.4: Refute of a problem that is not valid:", e, y)
		}
	})
}

// blank returns lists of zeros: rows of a length, and a list q.
func blank(rows, length, sides int) ([][]api.Rat, []api.Rat) {
	m := make([][]api.Rat, rows)
	for i := range m {
		m[i] = make([]api.Rat, length)
	}
	return m, make([]api.Rat, sides)
}

// Problems that are not valid: of any sizes, and with numbers that are not valid at any place.
func TestNotValid(t *testing.T) {
	for _, sizes := range [][3]int{
		{0, 0, 1}, {1, 1, 0}, {1, 0, 0}, {1, 0, 1}, {1, 2, 1}, {2, 1, 1}, {1, 2, 2}, {2, 2, 1}, {2, 2, 3}, {2, 3, 2}, {3, 2, 2}, {3, 3, 2},
		{33, 33, 33}, {32, 32, 33}, {33, 32, 32}, {32, 33, 32}, {33, 0, 0}, {0, 0, 33}, {9, 9, 8}, {9, 8, 9}, {64, 64, 64}, {65, 65, 65}, {500, 500, 500},
	} {
		m, q := blank(sizes[0], sizes[1], sizes[2])
		refused(t, m, q)
		// But for their sizes, they have a refutation.
		for _, l := range append(m, q) {
			for i := range l {
				l[i] = rat.Of(-1, 1)
			}
		}
		refused(t, m, q)
	}
	for _, n := range []int{1, 3, 9, 32} {
		for i := range n {
			for _, length := range []int{0, n - 1, n + 1, 33} {
				m, q := blank(n, n, n)
				m[i] = make([]api.Rat, length)
				if length != n {
					refused(t, m, q)
				}
			}
		}
	}
	for _, n := range []int{1, 2, 9} {
		for _, a := range broken() {
			for i := range n {
				for k := range n + 1 {
					m, q := of(make([]int, n), slices.Repeat([][]int{slices.Repeat([]int{-1}, n)}, n)...).lists()
					q[n-1] = rat.Of(-1, 1)
					if k < n {
						m[i][k] = a
					} else {
						q[i] = a
					}
					refused(t, m, q)
				}
			}
		}
	}
}

// P11.1: a negative number of pivots is refused, also where none is needed.
func TestNegativeMost(t *testing.T) {
	for _, p := range []problem{{}, of([]int{1}, []int{1}), of([]int{-1}, []int{1}), of([]int{-1}, []int{0})} {
		m, q := p.lists()
		for _, most := range []int{-1, -2, math.MinInt} {
			if c, e := complement.Solve(m, q, most); e != api.ErrArg || len(c.Z) > 0 || len(c.W) > 0 || c.Pivots != 0 {
				t.Error("P11.1: Solve with most", most, "returns", e, c)
			}
		}
	}
}
