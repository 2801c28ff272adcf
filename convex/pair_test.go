package convex_test

import (
	"math/big"
	"math/rand/v2"
	"slices"
	"testing"

	"gantry/api"
	"gantry/convex"
)

// sides tests Sides.
func sides(t *testing.T, a, b shape) []api.Edge {
	t.Helper()
	p, q := slices.Clone(a), slices.Clone(b)
	l := convex.Sides(p, q)
	if want := edges(a, b); !slices.Equal(l, want) {
		t.Fatal("P12.3: Sides of", a, b, "are", l, "not", want)
	}
	kept(t, p, a)
	kept(t, q, b)
	return l
}

// sums tests Sum.
func sums(t *testing.T, a, b shape) shape {
	t.Helper()
	p, q := slices.Clone(a), slices.Clone(b)
	l := convex.Sum(p, q)
	if want := differences(a, b).hull(); !slices.Equal(l, want) {
		t.Fatal("P12.4: Sum of", a, b, "is", shape(l), "not", want)
	}
	kept(t, p, a)
	kept(t, q, b)
	return l
}

// edge returns an edge.
func edge(x, y, h, at int) api.Edge {
	return api.Edge{N: api.Dir{X: x, Y: y, H: h}, At: at}
}

// P12.3: by hand.
func TestSidesExamples(t *testing.T) {
	for _, x := range []struct {
		a, b shape
		want []api.Edge
	}{
		{square(), triangle(), []api.Edge{edge(0, -1, 1, 3), edge(1, 0, 1, 2), edge(0, 1, 1, 2), edge(-1, 0, 1, 4), edge(-3, -4, 5, 12)}},
		{triangle(), square(), []api.Edge{edge(0, -1, 1, 2), edge(3, 4, 5, 12), edge(-1, 0, 1, 2), edge(0, 1, 1, 3), edge(1, 0, 1, 4)}},
		{square(), square(), []api.Edge{edge(0, -1, 1, 2), edge(1, 0, 1, 2), edge(0, 1, 1, 2), edge(-1, 0, 1, 2)}},
		{triangle(), triangle(), []api.Edge{edge(0, -1, 1, 3), edge(3, 4, 5, 12), edge(-1, 0, 1, 4), edge(0, 1, 1, 3), edge(-3, -4, 5, 12), edge(1, 0, 1, 4)}},
		{square().from(3), square().moved(at(10, 20)), []api.Edge{edge(-1, 0, 1, 12), edge(0, -1, 1, 22), edge(1, 0, 1, -8), edge(0, 1, 1, -18)}},
	} {
		if l := sides(t, x.a, x.b); !slices.Equal(l, x.want) {
			t.Error("P12.3: Sides of", x.a, x.b, "are", l)
		}
	}
}

// P12.4: by hand.
func TestSumExamples(t *testing.T) {
	for _, x := range []struct{ a, b, want shape }{
		{square(), triangle(), of(0, -3, 2, -3, 2, 2, -4, 2, -4, 0)},
		{square(), square(), of(-2, -2, 2, -2, 2, 2, -2, 2)},
		{triangle(), triangle(), of(0, -3, 4, -3, 4, 0, 0, 3, -4, 3, -4, 0)},
		{triangle(), triangle().turned(at(-1, 0)), of(0, 0, 8, 0, 0, 6)},
		// The least turn that there is: two sides of the length 1, one after the other.
		{of(0, 0, 1, 0, 1, 1, 0, 1), triangle().turned(at(-4, 3)), of(16, -12, 17, -12, 17, -11, 10, 13, 9, 13, 0, 1, 0, 0)},
	} {
		if l := sums(t, x.a, x.b); !slices.Equal(l, x.want) {
			t.Error("P12.4: Sum of", x.a, x.b, "is", l)
		}
	}
}

// P12.3, P12.4, P12.7.
func TestPairs(t *testing.T) {
	counts := map[int]int{}
	pairs("Pairs", 800, func(_ *rand.Rand, a, b shape) {
		there, back := sides(t, a, b), sides(t, b, a)
		s := sums(t, a, b)
		counts[len(s)]++
		if len(there) != len(s) || len(back) != len(s) || convex.Area(s) != s.twice() {
			t.Fatal("P12.3, P12.4: the sum of", a, b, "is", s, "with the edges", there)
		}
		for _, e := range there {
			if !slices.Contains(back, edge(-e.N.X, -e.N.Y, e.N.H, e.At)) {
				t.Fatal("P12.7: Sides of", b, a, "are", back, "without the opposite of", e)
			}
		}
	})
	for _, n := range []int{3, 4, 5, 6, 7, 8, 10, 12} {
		if counts[n] == 0 {
			t.Error("no pair with", n, "edges")
		}
	}
}

// P12.4: the greatest sums.
func TestSumGreatest(t *testing.T) {
	r := source("SumGreatest")
	for sixteen := 0; sixteen < 3; {
		a, b := random(r), random(r)
		if len(a) == 8 && len(b) == 8 && len(sums(t, a, b)) == 16 {
			sixteen++
			sides(t, a, b)
		}
	}
	all := of(-furthest, -furthest, furthest, -furthest, furthest, furthest, -furthest, furthest)
	if s := sums(t, all, all); !slices.Equal(s, all.turned(at(2, 0))) {
		t.Error("P12.4: Sum of the greatest square with itself is", s)
	}
	sides(t, all, all)
}

// outside reports whether a vector is beyond the line of an edge, on the outer side.
func outside(e api.Edge, r vector) int {
	return r.dot(exact(at(e.N.X, e.N.Y))).Cmp(big.NewRat(int64(e.At), 1))
}

// P12.5: vectors between points of both shapes, and all others.
func TestApart(t *testing.T) {
	between, away := 0, 0
	pairs("Apart", 250, func(r *rand.Rand, a, b shape) {
		l := convex.Sides(a, b)
		s := shape(convex.Sum(a, b))
		for range 10 {
			p, q := a.inside(r), b.inside(r)
			d := p.less(q)
			for _, e := range l {
				if outside(e, d) > 0 {
					t.Fatal("P12.5:", d, "is beyond", e, "of", a, b)
				}
			}
			if !s.has(t, d) {
				t.Fatal("P12.5:", d, "is not in the sum of", a, b)
			}
		}
		corner := exact(one(r, s))
		for _, v := range []vector{s.inside(r).along(s.inside(r), big.NewRat(4, 3)), s.inside(r), s.inside(r).along(corner, tiny()), s.inside(r).along(corner, new(big.Rat).Neg(tiny())), corner} {
			inner, closed := true, true
			for _, e := range l {
				inner = inner && outside(e, v) < 0
				closed = closed && outside(e, v) <= 0
			}
			if closed != s.has(t, v) {
				t.Fatal("P12.5:", v, "in the sum of", a, b)
			}
			if inner != overlap(a, b, v) {
				t.Fatal("P12.3: the edges", l, "of", a, b, "at", v)
			}
			if inner {
				between++
			} else {
				away++
			}
		}
	})
	if between < 100 || away < 100 {
		t.Error("too few vectors inside or outside:", between, away)
	}
}

// P12.6.
func TestMoved(t *testing.T) {
	pairs("Moved", 300, func(r *rand.Rand, a, b shape) {
		l := convex.Sides(a, b)
		low, high := a.ends()
		first, last := b.ends()
		m := at(r.IntN(2*furthest-high.X+low.X+1)-furthest-low.X, r.IntN(2*furthest-high.Y+low.Y+1)-furthest-low.Y)
		n := at(r.IntN(2*furthest-last.X+first.X+1)-furthest-first.X, r.IntN(2*furthest-last.Y+first.Y+1)-furthest-first.Y)
		c, d := a.moved(m), b.moved(n)
		moved := convex.Sides(c, d)
		if !convex.Valid(c) || !convex.Valid(d) || len(moved) != len(l) || convex.Area(c) != convex.Area(a) {
			t.Fatal("P12.6: of", a, b, "moved by", m, n)
		}
		for i, e := range l {
			e.At += inner(at(e.N.X, e.N.Y), minus(m, n))
			if moved[i] != e {
				t.Fatal("P12.6: the edge", i, "of", a, b, "moved by", m, n, "is", moved[i])
			}
		}
		for i, p := range a {
			was, _ := convex.Norm(p, a.next(i))
			is, _ := convex.Norm(c[i], c.next(i))
			if was != is {
				t.Fatal("P12.6: the normal", i, "of", a, "moved by", m)
			}
		}
	})
}

// Results share no memory with each other or with arguments.
func TestMemory(t *testing.T) {
	a, b := square(), triangle()
	l, again := convex.Sides(a, b), convex.Sides(a, b)
	s, second := convex.Sum(a, b), convex.Sum(a, b)
	clear(l[:cap(l)])
	clear(s[:cap(s)])
	kept(t, a, square())
	kept(t, b, triangle())
	if !slices.Equal(again, edges(a, b)) || !slices.Equal(second, of(0, -3, 2, -3, 2, 2, -4, 2, -4, 0)) {
		t.Error("P12.3, P12.4: results share memory")
	}
}
