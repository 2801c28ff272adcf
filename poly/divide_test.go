package poly_test

import (
	"math/big"
	"testing"

	"gantry/api"
	"gantry/poly"
)

// free returns a polynomial with the same zeros, each once.
func free(p model) model {
	if len(p) == 0 {
		return nil
	}
	quotient, _ := divided(p, divisor(p, derivative(p)))
	return unit(quotient)
}

// isUnit reports whether the last coefficient is 1.
func isUnit(p api.Poly) bool {
	return len(p) > 0 && equalNumbers(p[len(p)-1], api.Rat{P: api.Int{D: []int{1}}})
}

// P6.3.
func TestDiv(t *testing.T) {
	test := func(m, n model) {
		t.Helper()
		p, q := m.poly(), n.poly()
		quotient, rest := poly.Div(p, q)
		if len(n) == 0 {
			same(t, "P6.3: the quotient by 0", quotient, nil, m)
			same(t, "P6.3: the remainder by 0", rest, nil, m)
			return
		}
		if poly.Degree(rest) >= poly.Degree(q) || !poly.Valid(quotient) {
			t.Fatal("P6.3: Div", text(m), text(n), texts(quotient), texts(rest))
		}
		agree(t, "P6.3: the quotient times q, and the remainder", poly.Add(poly.Mul(q, quotient), rest), p, m, n)
		wanted, left := divided(m, n)
		same(t, "P6.3: the quotient", quotient, wanted, m, n)
		same(t, "P6.3: the remainder", rest, left, m, n)
		kept(t, p, m)
		kept(t, q, n)
	}
	pairs("Div", 700, func(m, n model) {
		test(m, n)
		test(product(m, n), n)
		test(plus(product(m, n), 1, of(1, 2)), n)
	})
	// Remainders whose degree is less by more than 1, and quotients with gaps.
	r := source("DivGaps")
	for range 500 {
		n := append(zeros(r.IntN(6)), big.NewRat(int64(1+r.IntN(5)), int64(1+r.IntN(5))))
		m := append(some(r, 2, plain), zeros(r.IntN(4))...)
		m = append(m, number(r))
		test(cut(m), n)
		test(cut(append(zeros(r.IntN(12)), plain(r))), n)
		test(cut(m), plus(n, 1, of(1)))
	}
}

// P6.4: all small polynomials, and others.
func TestGcd(t *testing.T) {
	pairs("Gcd", 250, func(m, n model) {
		p, q := m.poly(), n.poly()
		same(t, "P6.4: Gcd", poly.Gcd(p, q), divisor(m, n), m, n)
		kept(t, p, m)
		kept(t, q, n)
	})
	same(t, "P6.4: Gcd of 0 and 0", poly.Gcd(nil, api.Poly{}), nil)
	// With 0, it is the other one; with a number, it is 1.
	singles("GcdZero", 300, func(m model) {
		p := m.poly()
		same(t, "P6.4: Gcd of 0", poly.Gcd(nil, p), unit(m), m)
		same(t, "P6.4: Gcd with 0", poly.Gcd(p, nil), unit(m), m)
		same(t, "P6.4: Gcd with itself", poly.Gcd(p, p), unit(m), m)
		for _, a := range []*big.Rat{big.NewRat(1, 1), big.NewRat(-5, 3)} {
			constant := model{a}
			same(t, "P6.4: Gcd with a number", poly.Gcd(p, constant.poly()), of(1), m, a)
			same(t, "P6.4: Gcd of a number", poly.Gcd(constant.poly(), p), of(1), m, a)
		}
	})
}

// P6.4, P6.8: common divisors that are known.
func TestGcdProducts(t *testing.T) {
	r := source("GcdProducts")
	for i := range 700 {
		coefficient := plain
		if i%5 == 0 {
			coefficient = number
		}
		a, b, c := some(r, 4, coefficient), some(r, 4, coefficient), some(r, 5, coefficient)
		m, n := product(a, c), product(b, c)
		p, q, o := m.poly(), n.poly(), c.poly()
		got := poly.Gcd(p, q)
		same(t, "P6.4: Gcd", got, divisor(m, n), m, n)
		agree(t, "P6.4: Gcd in the other order", poly.Gcd(q, p), got, m, n)
		if len(c) > 0 {
			times := product(divisor(a, b), unit(c))
			same(t, "P6.8: Gcd of products", got, times, a, b, c)
			agree(t, "P6.8: Gcd of products", poly.Gcd(poly.Mul(p, o), poly.Mul(q, o)), poly.Mul(got, unit(c).poly()), m, n, c)
		}
		if len(got) == 0 {
			if len(m) > 0 || len(n) > 0 {
				t.Fatal("P6.4: Gcd is 0", text(m), text(n))
			}
			continue
		}
		if !isUnit(got) {
			t.Fatal("P6.4: the last coefficient of Gcd", text(m), text(n), texts(got))
		}
		first, rest := poly.Div(p, got)
		same(t, "P6.8: Gcd divides the first one", rest, nil, m, n)
		second, rest := poly.Div(q, got)
		same(t, "P6.8: Gcd divides the second one", rest, nil, m, n)
		same(t, "P6.8: Gcd of the quotients", poly.Gcd(first, second), of(1), m, n)
	}
}

// P6.4: long sequences of remainders, in which the degree falls by 1 or by more.
func TestGcdLong(t *testing.T) {
	r := source("GcdLong")
	for _, degree := range []int{5, 10, 16, 24} {
		for range 4 {
			// Not all multiples of the remainders have the sign of the one before.
			c := append(some(r, 3, plain), big.NewRat(-2, 1))
			m := product(c, full(r, degree, big.NewRat(7, 1)))
			n := product(c, full(r, degree-1, big.NewRat(-3, 2)))
			same(t, "P6.4: Gcd", poly.Gcd(m.poly(), n.poly()), divisor(m, n), m, n)
		}
	}
	// x^m - 1 and x^n - 1 have the divisor x^g - 1 for the greatest divisor g of m and n.
	for m := 1; m <= 30; m++ {
		for n := 1; n <= 30; n++ {
			g, rest := m, n
			for rest > 0 {
				g, rest = rest, g%rest
			}
			minus := func(n int) model { return plus(append(zeros(n), big.NewRat(1, 1)), -1, of(1)) }
			same(t, "P6.4: Gcd", poly.Gcd(minus(m).poly(), minus(n).poly()), minus(g), m, n)
		}
	}
}

// P6.4: known zeros, each of them several times.
func TestFreePowers(t *testing.T) {
	factors := []model{
		of(0, 1),
		of(-1, 1),
		of(2, 1),
		{big.NewRat(-5, 3), big.NewRat(1, 1)},
		of(-2, 0, 1),
		of(1, 0, 1),
		of(1, 1, 1),
		of(-2, 0, 0, 1),
		{big.NewRat(-1, 1000000007), new(big.Rat), big.NewRat(1, 1)},
	}
	r := source("FreePowers")
	for range 400 {
		p, want := scaled(of(1), big.NewRat(int64(1+r.IntN(9)), int64(-1-r.IntN(9)))), of(1)
		for range 1 + r.IntN(3) {
			f := factors[r.IntN(len(factors))]
			if _, rest := divided(want, f); len(rest) == 0 {
				continue
			}
			want = product(want, f)
			for range 1 + r.IntN(4) {
				p = product(p, f)
			}
		}
		same(t, "P6.4: Free", poly.Free(p.poly()), want, p)
	}
	same(t, "P6.4: Free of 0", poly.Free(nil), nil)
	for _, a := range []int64{1, -1, 7, 1000000000000} {
		same(t, "P6.4: Free of a number", poly.Free(of(a).poly()), of(1), a)
		same(t, "P6.4: Free of a fraction", poly.Free(model{big.NewRat(a, 11)}.poly()), of(1), a)
		same(t, "P6.4: Free of a power of x", poly.Free(of(0, 0, 0, 0, a).poly()), of(0, 1), a)
	}
}

// P6.4, P6.8.
func TestFree(t *testing.T) {
	test := func(m model) {
		t.Helper()
		p := m.poly()
		got := poly.Free(p)
		same(t, "P6.4: Free", got, free(m), m)
		kept(t, p, m)
		agree(t, "P6.8: Free of a square", poly.Free(poly.Mul(p, p)), got, m)
		if len(m) == 0 {
			return
		}
		if !isUnit(got) {
			t.Fatal("P6.4: the last coefficient of Free", text(m), texts(got))
		}
		_, rest := poly.Div(p, got)
		same(t, "P6.8: Free divides", rest, nil, m)
		same(t, "P6.8: Free and its derivative", poly.Gcd(got, poly.Derive(got)), of(1), m)
		agree(t, "P6.4: Free of Free", poly.Free(got), got, m)
	}
	for _, m := range small(3, big.NewRat(-2, 1), big.NewRat(-1, 1), big.NewRat(1, 1), big.NewRat(1, 2), big.NewRat(3, 1)) {
		test(m)
	}
	r := source("Free")
	for range 200 {
		a, b, c := some(r, 3, plain), some(r, 2, plain), some(r, 2, number)
		test(products(a, b, b))
		test(products(c, c))
		test(products(a, c))
		test(products(b, b, b, some(r, 1, plain)))
	}
}
