package complement_test

import (
	"testing"

	"gantry/api"
	"gantry/complement"
	"gantry/matrix"
)

// P11.6: 3^n pivots are enough.
func TestEnds(t *testing.T) {
	for _, p := range problems("Ends", 600, 1, 6) {
		m, q := p.lists()
		most := 1
		for range q {
			most *= 3
		}
		for _, limit := range []int{most, most + 1} {
			if c, e := complement.Solve(m, q, limit); e == api.ErrFuel || c.Pivots > most {
				t.Fatal("P11.6: Solve of", p, "returns", e, c.Pivots)
			}
		}
	}
}

// P11.7: just one solution.
func TestDefinite(t *testing.T) {
	r := source("Definite")
	for i := range 300 {
		number := kinds()[i%4]
		m := definite(r, 1+r.IntN(6), number)
		p := problem{m, sides(r, m, number)}
		a, q := p.lists()
		if !matrix.Positive(a) {
			t.Fatal("the matrix is not positive definite:", p)
		}
		c, e := complement.Solve(a, q, enough)
		l, f := complement.All(a, q)
		if e != api.OK || f != api.OK || len(l) != 1 || !equal(l[0], c.Z) {
			t.Fatal("P11.7: of", p, e, text(exact(c.Z)), f, len(l))
		}
	}
}

// P11.8: what a refutation says of solutions.
func TestRefutation(t *testing.T) {
	r := source("Refutation")
	for i := range 200 {
		p, _ := contradictory(r, 1+r.IntN(5), kinds()[i%4])
		m, q := p.lists()
		_, e := complement.Solve(m, q, enough)
		l, f := complement.All(m, q)
		if e != api.ErrRay || f != api.OK || len(l) > 0 {
			t.Fatal("P11.8: of", p, e, f, len(l))
		}
	}
}

// P11.8: for products of a matrix and the turned one, there is a solution or a refutation.
func TestProduct(t *testing.T) {
	r := source("Product")
	found := map[api.Errno]int{}
	for i := range 400 {
		number := kinds()[i%4]
		m := low(r, 1+r.IntN(7), number)
		p := problem{m, sides(r, m, number)}
		want := p.solves(t)
		found[want.e]++
		p.refuted(t, want.e == api.ErrRay)
	}
	if found[api.OK] < 50 || found[api.ErrRay] < 50 {
		t.Error("too few problems of a kind:", found)
	}
}

// P11.9: m and q, or q alone, multiplied by a positive number.
func TestScaled(t *testing.T) {
	r := source("Scaled")
	for _, p := range problems("Scaled", 300, 1, 6) {
		by := fraction(1+r.Int64N(50), 1+r.Int64N(50))
		m, q := p.lists()
		c, e := complement.Solve(m, q, enough)
		l, _ := complement.All(m, q)
		both, side := p.scaled(by, by).lists()
		d, f := complement.Solve(both, side, enough)
		k, _ := complement.All(both, side)
		if e != f || !equal(c.Z, d.Z) || !exact(c.W).scaled(by).same(exact(d.W)) || len(k) != len(l) {
			t.Fatal("P11.9: m and q times", by, "of", p, e, f, text(exact(c.Z), exact(d.Z)), len(l), len(k))
		}
		for i, z := range l {
			if !equal(z, k[i]) {
				t.Fatal("P11.9: m and q times", by, "of", p, text(exact(z), exact(k[i])))
			}
		}
		_, side = p.scaled(by, by).lists()
		d, f = complement.Solve(m, side, enough)
		if e != f || !exact(c.Z).scaled(by).same(exact(d.Z)) || !exact(c.W).scaled(by).same(exact(d.W)) {
			t.Fatal("P11.9: q times", by, "of", p, e, f, text(exact(c.Z), exact(d.Z)))
		}
	}
}
