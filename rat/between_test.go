package rat_test

import (
	"math/big"
	"testing"

	"gantry/api"
	"gantry/rat"
)

// search returns the number with the least denominator, and of these the least absolute value, from lo to hi: it tries all denominators.
func search(lo, hi *big.Rat) *big.Rat {
	one := big.NewInt(1)
	for q := big.NewInt(1); ; q.Add(q, one) {
		first, rest := new(big.Int).DivMod(new(big.Int).Mul(lo.Num(), q), lo.Denom(), new(big.Int))
		if rest.Sign() > 0 {
			first.Add(first, one)
		}
		last := new(big.Int).Div(new(big.Int).Mul(hi.Num(), q), hi.Denom())
		switch {
		case first.Cmp(last) > 0:
			continue
		case first.Sign() > 0:
			return new(big.Rat).SetFrac(first, q)
		case last.Sign() < 0:
			return new(big.Rat).SetFrac(last, q)
		}
		return new(big.Rat)
	}
}

// between tests Between with all signs of the bounds.
func between(t *testing.T, lo, hi, want *big.Rat) {
	t.Helper()
	neg := func(n *big.Rat) *big.Rat { return new(big.Rat).Neg(n) }
	for _, c := range [][3]*big.Rat{{lo, hi, want}, {neg(hi), neg(lo), neg(want)}} {
		a, b := canonical(c[0]), canonical(c[1])
		got, e := rat.Between(a, b)
		if e != api.OK {
			t.Fatal("P5.6: Between", c[0], c[1], e)
		}
		same(t, "P5.6: Between", got, c[2], c[0], c[1])
		if !equal(a, canonical(c[0])) || !equal(b, canonical(c[1])) {
			t.Fatal("an argument was changed:", c[0], c[1])
		}
	}
}

// P5.6: the examples.
func TestBetweenExamples(t *testing.T) {
	for _, c := range [][3]*big.Rat{
		{of(1, 3), of(2, 5), of(1, 3)},
		{of(3, 10), of(2, 5), of(1, 3)},
		{of(-5, 2), of(-3, 2), of(-2, 1)},
		{of(-1, 2), of(3, 1), of(0, 1)},
		// Several integers, and bounds that are integers.
		{of(5, 2), of(9, 2), of(3, 1)},
		{of(3, 1), of(9, 2), of(3, 1)},
		{of(5, 2), of(3, 1), of(3, 1)},
		{of(0, 1), of(1, 1000), of(0, 1)},
		{of(-7, 3), of(0, 1), of(0, 1)},
		{of(0, 1), of(0, 1), of(0, 1)},
		{of(1, 1000), of(1, 1), of(1, 1)},
		{of(1, 1000), of(999, 1000), of(1, 2)},
		{of(1, 1000), of(1, 999), of(1, 999)},
		{of(7, 1), of(7, 1), of(7, 1)},
	} {
		between(t, c[0], c[1], c[2])
	}
}

// P5.6: all bounds with small denominators.
func TestBetweenSmall(t *testing.T) {
	var l []*big.Rat
	for q := int64(1); q <= 13; q++ {
		for p := -2 * q; p <= 2*q; p++ {
			if a := of(p, q); a.Denom().Int64() == q {
				l = append(l, a)
			}
		}
	}
	for _, lo := range l {
		for _, hi := range l {
			if lo.Cmp(hi) <= 0 {
				between(t, lo, hi, search(lo, hi))
				continue
			}
			if a, e := rat.Between(canonical(lo), canonical(hi)); e != api.ErrArg || !equal(a, api.Rat{}) {
				t.Fatal("P5.6: Between in the wrong order", lo, hi, e, a)
			}
		}
	}
}

// P5.6, P5.11: bounds with great denominators that are not too near to each other.
func TestBetweenWide(t *testing.T) {
	r := source("BetweenWide")
	for range 4000 {
		lo := some(r, 1+r.IntN(200))
		width := new(big.Rat).SetFrac(bits(r, 100), bits(r, 100))
		// Less than 100000 denominators are tried, as each width has a multiple of its inverse.
		if width.Cmp(of(1, 100000)) < 0 {
			width = of(1, int64(1+r.IntN(3000)))
		}
		hi := new(big.Rat).Add(lo, width)
		between(t, lo, hi, search(lo, hi))
	}
}

// P5.6, P5.11: bounds so near to a number that all others between them have a greater denominator.
func TestBetweenNear(t *testing.T) {
	r := source("BetweenNear")
	for range 2000 {
		n := some(r, 1+r.IntN(300))
		if n.Sign() == 0 {
			continue
		}
		// Another number with a denominator up to q is at least 1 / q^2 away.
		square := new(big.Int).Mul(n.Denom(), n.Denom())
		near := func() *big.Rat {
			d := new(big.Int).Add(square, bits(r, 1+r.IntN(300)))
			return new(big.Rat).SetFrac(big.NewInt(1), d)
		}
		lo, hi := new(big.Rat).Sub(n, near()), new(big.Rat).Add(n, near())
		if n.IsInt() && lo.Sign() != n.Sign() {
			continue
		}
		between(t, lo, hi, n)
		between(t, n, hi, n)
		between(t, lo, n, n)
		between(t, n, n, n)
		if a, e := rat.Between(canonical(hi), canonical(lo)); e != api.ErrArg || !equal(a, api.Rat{}) {
			t.Fatal("P5.6: Between in the wrong order", n, e)
		}
	}
}

// P5.11.
func TestBetweenPart(t *testing.T) {
	pairs("BetweenPart", 3000, func(m, n *big.Rat) {
		if m.Cmp(n) > 0 {
			m, n = n, m
		}
		lo, hi := canonical(m), canonical(n)
		least, e := rat.Between(lo, hi)
		if e != api.OK || rat.Compare(lo, least) > 0 || rat.Compare(least, hi) > 0 {
			t.Fatal("P5.6: Between is not from lo to hi", m, n, e)
		}
		half := rat.Of(1, 2)
		left := rat.Mul(rat.Add(lo, least), half)
		right := rat.Mul(rat.Add(least, hi), half)
		for _, part := range [][2]api.Rat{{lo, least}, {left, least}, {left, right}, {least, least}, {least, right}, {least, hi}, {left, hi}} {
			again, e := rat.Between(part[0], part[1])
			if e != api.OK {
				t.Fatal("P5.11: Between of a part", m, n, e)
			}
			agree(t, "P5.11: Between of a part", again, least, m, n)
		}
	})
}

// P5.6: many quotients, all of them 1, and a great number of digits.
func TestBetweenLong(t *testing.T) {
	p, q := big.NewInt(1), big.NewInt(1)
	for i := range 6000 {
		p, q = new(big.Int).Add(p, q), p
		if i%500 == 0 || i < 60 {
			n := new(big.Rat).SetFrac(p, q)
			next := new(big.Rat).SetFrac(new(big.Int).Add(p, q), p)
			lo, hi, want := n, next, n
			if lo.Cmp(hi) > 0 {
				lo, hi = hi, lo
			}
			between(t, n, n, n)
			between(t, lo, hi, want)
		}
	}
}
