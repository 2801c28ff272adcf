package convex_test

import (
	"math/big"
	"math/rand/v2"
	"slices"
	"testing"

	"gantry/api"
	"gantry/convex"
	"gantry/rat"
)

// tiny returns a number that is far less than all the others.
func tiny() *big.Rat {
	return new(big.Rat).SetFrac(big.NewInt(1), new(big.Int).Lsh(big.NewInt(1), 120))
}

// share returns a number from 0 to 1, often one of both.
func share(r *rand.Rand) *big.Rat {
	n := 1 + r.Int64N(one(r, []int64{1, 3, 1 << 40}))
	return big.NewRat(r.Int64N(n+1), n)
}

// inside returns a point of a shape, often one on the boundary.
func (s shape) inside(r *rand.Rand) vector {
	i := r.IntN(len(s))
	v := exact(s[i]).along(exact(s.next(i)), share(r))
	if r.IntN(2) == 0 {
		v = v.along(exact(one(r, s)), share(r))
	}
	return v
}

// has tests Has.
func (s shape) has(t *testing.T, v vector) bool {
	t.Helper()
	got := convex.Has(s, v.vec())
	if got != s.contains(v) {
		t.Fatal("P12.4: Has of", s, v, "is", got)
	}
	return got
}

// P12.4: by hand.
func TestHasExamples(t *testing.T) {
	for _, x := range []struct {
		s    shape
		x, y *big.Rat
		want bool
	}{
		{triangle(), big.NewRat(2, 1), big.NewRat(3, 2), true},
		{triangle(), big.NewRat(2, 1), big.NewRat(2, 1), false},
		{triangle(), new(big.Rat), new(big.Rat), true},
		{triangle(), big.NewRat(4, 1), new(big.Rat), true},
		{triangle(), big.NewRat(5, 1), new(big.Rat), false},
		{triangle(), big.NewRat(-1, 9), new(big.Rat), false},
		{triangle(), new(big.Rat), big.NewRat(-1, 9), false},
		{square(), big.NewRat(1, 1), big.NewRat(1, 1), true},
		{square(), big.NewRat(2, 1), big.NewRat(1, 1), true},
		{square(), big.NewRat(19, 9), big.NewRat(1, 1), false},
	} {
		if got := x.s.has(t, vector{x.x, x.y}); got != x.want {
			t.Error("P12.4: Has of", x.s, x.x, x.y, "is", got)
		}
	}
}

// P12.4: points inside, on the boundary and beside it, and on the lines of the sides.
func TestHas(t *testing.T) {
	r := source("HasInside")
	beyond := []*big.Rat{new(big.Rat), big.NewRat(1, 1), big.NewRat(1, 3), big.NewRat(-1, 3), big.NewRat(4, 3), new(big.Rat).Neg(tiny()), tiny()}
	for _, s := range shapes("Has", 80) {
		was := slices.Clone(s)
		for i, p := range s {
			for _, part := range beyond {
				on := exact(p).along(exact(s.next(i)), part)
				if s.has(t, on) != (part.Sign() >= 0 && part.Cmp(big.NewRat(1, 1)) <= 0) {
					t.Fatal("P12.4: Has of", s, "at a side", on)
				}
				for _, q := range s {
					s.has(t, on.along(exact(q), tiny()))
					s.has(t, on.along(exact(q), new(big.Rat).Neg(tiny())))
				}
			}
		}
		for range 20 {
			if v := s.inside(r); !s.has(t, v) {
				t.Fatal("P12.4: Has of", s, "has not", v)
			}
			s.has(t, s.inside(r).along(s.inside(r), big.NewRat(r.Int64N(9)-3, 3)))
		}
		kept(t, s, was)
	}
}

// P12.4: numbers with many digits.
func TestHasLong(t *testing.T) {
	huge := new(big.Rat).SetInt(new(big.Int).Lsh(big.NewInt(1), 3000))
	for _, s := range shapes("HasLong", 40) {
		for _, p := range s {
			for _, q := range s {
				v := exact(p).along(exact(q), new(big.Rat).Quo(tiny(), huge))
				if !s.has(t, v) {
					t.Fatal("P12.4: Has of", s, "has not a point near", p)
				}
				s.has(t, exact(p).along(exact(q), huge))
				s.has(t, exact(p).along(exact(q), new(big.Rat).Quo(big.NewRat(-1, 1), huge)))
			}
		}
	}
}

// P1: lists that are no shapes, of which nothing is specified but that no function panics; without corners, there is no point.
func TestOdd(t *testing.T) {
	lists := []shape{nil, {}, of(3, 4), of(0, 0, 3, 4), of(1, 1, 1, 1, 1, 1), of(0, 0, 1, 2, 3, 1), of(0, 0, 1, 0, 2, 0), square().reversed(), slices.Concat(square(), square())}
	for _, x := range wild() {
		for _, y := range wild()[8:] {
			lists = append(lists, of(x, y, 0, 0, y, x), of(x, y), of(0, 0, x, 0, x, x, 0, x))
		}
	}
	numbers := []api.Int{{}, {Neg: true}, {D: []int{0}}, {D: []int{-5}}, {D: []int{api.Base, 3}}, {Neg: true, D: []int{1}}, {D: []int{4}}}
	var odd []api.Rat
	for _, p := range numbers {
		for _, q := range numbers {
			odd = append(odd, api.Rat{P: p, Q: q})
		}
	}
	for _, a := range lists {
		was := slices.Clone(a)
		convex.Valid(a)
		convex.Area(a)
		convex.Box(a)
		convex.Most(a, api.Dir{})
		convex.Most(a, api.Dir{X: 1 << 62, Y: -1 << 63, H: -3})
		for _, b := range []shape{nil, square(), of(5, 5), a} {
			convex.Sides(a, b)
			convex.Sides(b, a)
			convex.Sum(a, b)
			convex.Sum(b, a)
		}
		for i, p := range a {
			convex.Norm(p, a.next(i))
			convex.Norm(p, at(0, 0))
		}
		convex.Has(a, api.Vec{X: rat.Of(1, 2)})
		kept(t, a, was)
	}
	for _, x := range odd {
		for _, y := range odd {
			convex.Has(square(), api.Vec{X: x, Y: y})
		}
	}
	low, high := convex.Box(nil)
	if convex.Has(nil, api.Vec{}) || convex.Area(nil) != 0 || low != at(0, 0) || high != at(0, 0) || convex.Most(nil, api.Dir{X: 1, H: 1}) != 0 || len(convex.Sides(nil, nil)) != 0 || len(convex.Sum(nil, nil)) != 0 {
		t.Error("results for a list without corners are not empty")
	}
}
