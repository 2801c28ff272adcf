package poly_test

import (
	"math/big"
	"slices"
	"testing"

	"gantry/api"
	"gantry/poly"
	"gantry/rat"
)

func TestExamples(t *testing.T) {
	p, q := of(-1, 0, 1).poly(), of(-1, 1).poly()
	same(t, "P6.2: Mul", poly.Mul(p, q), of(1, -1, -1, 1))
	quotient, rest := poly.Div(p, q)
	same(t, "P6.3: the quotient", quotient, of(1, 1))
	same(t, "P6.3: the remainder", rest, nil)
	quotient, rest = poly.Div(q, p)
	same(t, "P6.3: the quotient", quotient, nil)
	same(t, "P6.3: the remainder", rest, of(-1, 1))
	same(t, "P6.4: Gcd", poly.Gcd(p, poly.Mul(q, q)), of(-1, 1))
	same(t, "P6.4: Free", poly.Free(poly.Mul(p, q)), of(-1, 0, 1))
	same(t, "P6.2: Shift", poly.Shift(p, rat.Of(1, 1)), of(0, 2, 1))
	sameNumber(t, "P6.2: Eval", poly.Eval(p, rat.Of(3, 1)), big.NewRat(8, 1))
}

// P6.1.
func TestValid(t *testing.T) {
	one, half := rat.Of(1, 1), rat.Of(1, 2)
	for i, p := range []api.Poly{
		nil,
		{},
		{one},
		{half},
		{rat.Of(-7, 3)},
		{{}, one},
		{{}, {}, half},
		{one, {}, half},
		{{P: api.Int{D: []int{}}, Q: api.Int{D: []int{}}}, one},
	} {
		if !poly.Valid(p) {
			t.Error("P6.1: not valid:", i, p)
		}
	}
	two := api.Int{D: []int{2}}
	for i, p := range []api.Poly{
		{{}},
		{one, {}},
		{one, {P: api.Int{D: []int{}}}},
		{{}, {}},
		{one, half, {}},
	} {
		if poly.Valid(p) {
			t.Error("P6.1: valid, though it ends with 0:", i, p)
		}
	}
	for i, a := range []api.Rat{
		{P: two, Q: two},
		{P: two, Q: api.Int{D: []int{1}}},
		{P: two, Q: api.Int{D: []int{4}}},
		{P: two, Q: api.Int{D: []int{0}}},
		{P: two, Q: api.Int{Neg: true, D: []int{3}}},
		{P: two, Q: api.Int{Neg: true}},
		{P: api.Int{D: []int{1, 0}}},
		{P: api.Int{D: []int{0}}},
		{P: api.Int{Neg: true}},
		{P: api.Int{D: []int{-1}}},
		{P: api.Int{D: []int{api.Base}}},
		{Q: two},
	} {
		for k, p := range []api.Poly{{a}, {a, one}, {one, a}, {half, a, half}, {one, {}, a}} {
			if poly.Valid(p) {
				t.Error("P6.1: valid with a number that is not canonical:", i, k, p)
			}
		}
	}
	singles("Valid", 1000, func(p model) {
		if !poly.Valid(p.poly()) || poly.Valid(append(p.poly(), api.Rat{})) {
			t.Fatal("P6.1: Valid", text(p))
		}
	})
}

// P6.1.
func TestTrim(t *testing.T) {
	singles("Trim", 1000, func(p model) {
		for n := range 4 {
			l := []api.Rat(append(p, zeros(n)...).poly())
			got := poly.Trim(l)
			same(t, "P6.1: Trim", got, p, p, n)
			kept(t, l, append(p, zeros(n)...))
			if d := poly.Degree(got); d != len(p)-1 {
				t.Fatal("P6.1: Degree", text(p), d)
			}
			// The list is no polynomial, so that its owner may change it.
			for k := range l {
				l[k] = rat.Of(77, 5)
			}
			same(t, "Trim shares no memory", got, p, p, n)
		}
	})
	for _, l := range [][]api.Rat{nil, {}, {{}}, make([]api.Rat, 9)} {
		if p := poly.Trim(l); len(p) != 0 || !poly.Valid(p) {
			t.Error("P6.1: Trim of zeros", len(l), texts(p))
		}
	}
	if d := poly.Degree(nil); d != -1 {
		t.Error("P6.1: Degree of nil", d)
	}
	if d := poly.Degree(api.Poly{}); d != -1 {
		t.Error("P6.1: Degree of an empty polynomial", d)
	}
}

// P6.2, and those of P6.6 and P6.7 on two polynomials.
func TestPairs(t *testing.T) {
	pairs("Pairs", 1500, func(m, n model) {
		p, q := m.poly(), n.poly()
		sum, difference, times := poly.Add(p, q), poly.Sub(p, q), poly.Mul(p, q)
		same(t, "P6.2: Add", sum, plus(m, 1, n), m, n)
		same(t, "P6.2: Sub", difference, plus(m, -1, n), m, n)
		same(t, "P6.2: Mul", times, product(m, n), m, n)
		agree(t, "P6.6: Add commutes", poly.Add(q, p), sum, m, n)
		agree(t, "P6.6: Mul commutes", poly.Mul(q, p), times, m, n)
		agree(t, "P6.6: Sub undoes Add", poly.Sub(sum, q), p, m, n)
		parts := poly.Add(poly.Mul(poly.Derive(p), q), poly.Mul(p, poly.Derive(q)))
		agree(t, "P6.7: the derivative of a product", poly.Derive(times), parts, m, n)
		kept(t, p, m)
		kept(t, q, n)
	})
}

// P6.6.
func TestRing(t *testing.T) {
	r := source("Ring")
	for range 1500 {
		m, n, o := some(r, 6, number), some(r, 6, number), some(r, 6, number)
		p, q, s := m.poly(), n.poly(), o.poly()
		agree(t, "P6.6: Add is associative", poly.Add(poly.Add(p, q), s), poly.Add(p, poly.Add(q, s)), m, n, o)
		agree(t, "P6.6: Mul is associative", poly.Mul(poly.Mul(p, q), s), poly.Mul(p, poly.Mul(q, s)), m, n, o)
		agree(t, "P6.6: Mul distributes", poly.Mul(p, poly.Add(q, s)), poly.Add(poly.Mul(p, q), poly.Mul(p, s)), m, n, o)
		x := canonical(number(r))
		if !rat.Same(poly.Eval(poly.Add(p, q), x), rat.Add(poly.Eval(p, x), poly.Eval(q, x))) {
			t.Fatal("P6.6: the value of a sum", text(m), text(n), rat.Text(x))
		}
		if !rat.Same(poly.Eval(poly.Mul(p, q), x), rat.Mul(poly.Eval(p, x), poly.Eval(q, x))) {
			t.Fatal("P6.6: the value of a product", text(m), text(n), rat.Text(x))
		}
	}
}

// P6.2: polynomials of very different degrees, also of a degree above the limit of other layers.
func TestLong(t *testing.T) {
	r := source("Long")
	for _, degrees := range [][2]int{{0, 90}, {1, 90}, {90, 2}, {60, 60}, {200, 5}} {
		m, n := full(r, degrees[0], big.NewRat(-3, 7)), full(r, degrees[1], big.NewRat(5, 2))
		p, q := m.poly(), n.poly()
		same(t, "P6.2: Mul", poly.Mul(p, q), product(m, n), degrees)
		same(t, "P6.2: Add", poly.Add(p, q), plus(m, 1, n), degrees)
		same(t, "P6.2: Sub", poly.Sub(p, q), plus(m, -1, n), degrees)
		same(t, "P6.2: Derive", poly.Derive(p), derivative(m), degrees)
		quotient, rest := poly.Div(p, q)
		wanted, left := divided(m, n)
		same(t, "P6.3: the quotient", quotient, wanted, degrees)
		same(t, "P6.3: the remainder", rest, left, degrees)
	}
}

// P6.2.
func TestScale(t *testing.T) {
	r := source("Scale")
	singles("ScaleAll", 1500, func(m model) {
		p := m.poly()
		for _, a := range []*big.Rat{new(big.Rat), big.NewRat(1, 1), big.NewRat(-1, 1), big.NewRat(2, 3), number(r)} {
			got := poly.Scale(p, canonical(a))
			same(t, "P6.2: Scale", got, scaled(m, a), m, a)
			agree(t, "P6.2: Scale is Mul", got, poly.Mul(poly.Trim([]api.Rat{canonical(a)}), p), m, a)
		}
		kept(t, p, m)
	})
}

// P6.2.
func TestEval(t *testing.T) {
	r := source("Eval")
	singles("EvalAll", 1500, func(m model) {
		p := m.poly()
		for _, x := range []*big.Rat{new(big.Rat), big.NewRat(1, 1), big.NewRat(-1, 1), big.NewRat(-3, 2), number(r)} {
			sameNumber(t, "P6.2: Eval", poly.Eval(p, canonical(x)), value(m, x), m, x)
		}
		kept(t, p, m)
	})
	// The value at a zero.
	for _, a := range []*big.Rat{new(big.Rat), big.NewRat(5, 7), big.NewRat(-123456789012345, 1000000007)} {
		m := product(some(r, 8, number), model{new(big.Rat).Neg(a), big.NewRat(1, 1)})
		sameNumber(t, "P6.2: Eval at a zero", poly.Eval(m.poly(), canonical(a)), new(big.Rat), m, a)
	}
}

// P6.2.
func TestDerive(t *testing.T) {
	singles("Derive", 1500, func(m model) {
		p := m.poly()
		same(t, "P6.2: Derive", poly.Derive(p), derivative(m), m)
		kept(t, p, m)
	})
}

// P6.2, P6.7.
func TestShift(t *testing.T) {
	r := source("Shift")
	singles("ShiftAll", 400, func(m model) {
		p := m.poly()
		for _, a := range []*big.Rat{new(big.Rat), big.NewRat(1, 1), big.NewRat(-1, 2), plain(r), number(r)} {
			got := poly.Shift(p, canonical(a))
			same(t, "P6.2: Shift", got, moved(m, a), m, a)
			x := plain(r)
			sum := new(big.Rat).Add(x, a)
			sameNumber(t, "P6.2: the value of Shift", poly.Eval(got, canonical(x)), value(m, sum), m, a, x)
			agree(t, "P6.7: Shift by a and b", poly.Shift(got, canonical(x)), poly.Shift(p, canonical(sum)), m, a, x)
			agree(t, "P6.7: Shift back", poly.Shift(got, canonical(new(big.Rat).Neg(a))), p, m, a)
			agree(t, "P6.7: Shift keeps Derive", poly.Derive(got), poly.Shift(poly.Derive(p), canonical(a)), m, a)
		}
		kept(t, p, m)
	})
}

// The program's results do not depend on what is behind the end of an argument, and leave it.
func TestRoom(t *testing.T) {
	r := source("Room")
	for range 300 {
		m, n := some(r, 5, plain), some(r, 5, plain)
		room := slices.Concat(m.poly(), of(3, 1, 4, 1, 5, 9).poly())
		p, q := room[:len(m)], n.poly()
		same(t, "P6.2: Add", poly.Add(p, q), plus(m, 1, n), m, n)
		same(t, "P6.2: Sub", poly.Sub(p, q), plus(m, -1, n), m, n)
		same(t, "P6.2: Mul", poly.Mul(q, p), product(m, n), m, n)
		same(t, "P6.2: Derive", poly.Derive(p), derivative(m), m)
		same(t, "P6.2: Shift", poly.Shift(p, rat.Of(1, 3)), moved(m, big.NewRat(1, 3)), m)
		same(t, "P6.1: Trim", poly.Trim(p), m, m)
		same(t, "P6.4: Gcd", poly.Gcd(p, q), divisor(m, n), m, n)
		same(t, "P6.4: Gcd", poly.Gcd(q, p), divisor(m, n), n, m)
		same(t, "P6.4: Free", poly.Free(p), free(m), m)
		if len(n) > 0 {
			quotient, rest := poly.Div(p, q)
			wanted, left := divided(m, n)
			same(t, "P6.3: the quotient", quotient, wanted, m, n)
			same(t, "P6.3: the remainder", rest, left, m, n)
		}
		kept(t, room, slices.Concat(m, of(3, 1, 4, 1, 5, 9)))
	}
}
