package complement_test

import (
	"math"
	"math/big"
	"testing"

	"gantry/api"
	"gantry/complement"
	"gantry/rat"
)

// P11.1: the examples, and others by hand.
func TestSolveExamples(t *testing.T) {
	two := of([]int{-5, -6}, []int{2, 1}, []int{1, 2})
	two.solve(t, 4, result{vector{fraction(4, 3), fraction(7, 3)}, zeros(2), 3, api.OK})
	two.solve(t, 3, result{vector{fraction(4, 3), fraction(7, 3)}, zeros(2), 3, api.OK})
	two.solve(t, 2, result{e: api.ErrFuel})
	two.q = whole(-4, 1)
	two.solve(t, 2, result{whole(2, 0), whole(0, 3), 2, api.OK})
	one := of([]int{-3}, []int{2})
	one.solve(t, 2, result{vector{fraction(3, 2)}, zeros(1), 2, api.OK})
	one.solve(t, 1, result{e: api.ErrFuel})
	one.solve(t, 0, result{e: api.ErrFuel})
	of([]int{-1}, []int{-1}).solve(t, 9, result{e: api.ErrRay})
	// After the first pivot, there is no row for a second one, which would be too many.
	ray := of([]int{-1}, []int{0})
	ray.solve(t, 2, result{e: api.ErrRay})
	ray.solve(t, 1, result{e: api.ErrRay})
	ray.solve(t, 0, result{e: api.ErrFuel})
}

// P11.1: no pivots, however many are allowed.
func TestSolveAtOnce(t *testing.T) {
	of(nil).solve(t, 0, result{})
	r := source("SolveAtOnce")
	for _, n := range []int{1, 2, 31, 32} {
		for _, number := range kinds() {
			p := problem{general(r, n, number), zeros(n)}
			for _, q := range []vector{zeros(n), some(r, n, share)} {
				p.q = q
				for _, most := range []int{0, 1, math.MaxInt} {
					p.solve(t, most, result{z: zeros(n), w: q})
				}
			}
		}
	}
}

// P11.1: all problems of few numbers, most of them with rows that are equally good but for their keys.
func TestSolveSmall(t *testing.T) {
	every := func(n, low, high, q int) {
		p := problem{make([]vector, n), zeros(n)}
		places := make([]*big.Rat, 0, n*n+n)
		for i := range p.m {
			p.m[i] = zeros(n)
			places = append(places, p.m[i]...)
		}
		places = append(places, p.q...)
		var fill func(i int)
		fill = func(i int) {
			first, last := low, high
			if i >= n*n {
				first, last = q, 0
			}
			if i == len(places) {
				p.solves(t)
				return
			}
			for value := first; value <= last; value++ {
				places[i].SetInt64(int64(value))
				fill(i + 1)
			}
		}
		fill(0)
	}
	every(1, -3, 3, -3)
	every(2, -2, 2, -2)
	every(3, 0, 1, -1)
}

// P11.1, P11.5: problems of all forms, with each number of pivots.
func TestSolve(t *testing.T) {
	found := map[api.Errno]int{}
	for _, p := range problems("Solve", 2500, 1, 7) {
		found[p.solves(t).e]++
	}
	for _, p := range problems("SolveMost", 200, 1, 8) {
		want := p.lemke(enough)
		for most := range 12 {
			if p.lemke(most).e == want.e {
				p.solve(t, most, want)
			} else {
				p.solve(t, most, result{e: api.ErrFuel})
			}
		}
	}
	if found[api.OK] < 800 || found[api.ErrRay] < 300 {
		t.Error("too few problems of a kind:", found)
	}
}

// P11.1, P11.5: the greatest problems.
func TestSolveWide(t *testing.T) {
	r := source("SolveWide")
	for i := range 15 {
		number := kinds()[i/5%3]
		m := forms()[i%5](r, 24+i%9, number)
		p := problem{m, sides(r, m, number)}
		p.solve(t, enough, p.lemke(enough))
	}
	for _, f := range forms() {
		m := f(r, 32, few)
		p := problem{m, sides(r, m, few)}
		p.solve(t, enough, p.lemke(enough))
	}
}

// P11.1: a right side of long numbers with other denominators than those of the matrix.
func TestSolveLong(t *testing.T) {
	r := source("SolveLong")
	for range 60 {
		m := rubbing(r, 8+4*r.IntN(3), plain)
		problem{m, some(r, len(m), unusual)}.solves(t)
	}
}

// murty returns a problem of n pairs that takes 2^n pivots, and its solution.
func murty(n int) (problem, vector) {
	p, z := problem{make([]vector, n), zeros(n)}, zeros(n)
	for i := range n {
		p.m[i] = zeros(n)
		p.m[i][i].SetInt64(1)
		for k := i + 1; k < n; k++ {
			p.m[i][k].SetInt64(2)
		}
		p.q[i].SetInt64(1<<i - 1<<n)
	}
	z[n-1].SetInt64(1 << (n - 1))
	return p, z
}

// P11.1, P11.6: as many pivots as all choices.
func TestSolveMany(t *testing.T) {
	for n := 1; n <= 11; n++ {
		p, z := murty(n)
		want := result{z, p.w(z), 1 << n, api.OK}
		p.solve(t, enough, want)
		p.solve(t, 1<<n, want)
		p.solve(t, 1<<n-1, result{e: api.ErrFuel})
		p.solve(t, 1<<(n-1), result{e: api.ErrFuel})
		if n < 8 {
			p.solves(t)
		}
	}
}

// Results are the caller's; equal problems have equal results.
func TestSolveMemory(t *testing.T) {
	spoil := func(l []api.Rat) {
		for i := range l[:cap(l)] {
			l[:cap(l)][i] = rat.Of(77, 5)
		}
	}
	for _, p := range append(problems("SolveMemory", 60, 1, 6), of([]int{1, 0, 5}, []int{1, 1, 1}, []int{0, 0, 0}, []int{1, 2, 3})) {
		m, q := p.lists()
		a, e := complement.Solve(m, q, enough)
		b, f := complement.Solve(m, q, enough)
		if e != f || !equal(a.Z, b.Z) || !equal(a.W, b.W) || a.Pivots != b.Pivots {
			t.Fatal("P11.1: Solve of", p, "twice:", e, f)
		}
		c, _ := complement.Solve(m, q, enough)
		spoil(a.Z)
		spoil(c.W)
		if !equal(a.W, b.W) || !equal(c.Z, b.Z) {
			t.Fatal("P11.1: Z and W of", p, "share memory")
		}
		spoil(a.W)
		if c, _ := complement.Solve(m, q, enough); !equal(b.Z, c.Z) || !equal(b.W, c.W) {
			t.Fatal("P11.1: results of", p, "share memory")
		}
		p.unchanged(t, m, q)
	}
}
