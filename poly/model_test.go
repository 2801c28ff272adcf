package poly_test

import (
	"fmt"
	"math/big"
	"math/rand/v2"
	"slices"
	"strings"
	"testing"

	"gantry/api"
	"gantry/integer"
	"gantry/poly"
	"gantry/rat"
)

// A model is a polynomial of the oracle: its coefficients, the last of which is not 0.
type model []*big.Rat

// cut returns coefficients without zeros at the end.
func cut(l model) model {
	for len(l) > 0 && l[len(l)-1].Sign() == 0 {
		l = l[:len(l)-1]
	}
	return l
}

// of returns a polynomial with integers as coefficients.
func of(l ...int64) model {
	m := make(model, len(l))
	for k, n := range l {
		m[k] = big.NewRat(n, 1)
	}
	return cut(m)
}

// zeros returns n coefficients 0.
func zeros(n int) model {
	l := make(model, n)
	for k := range l {
		l[k] = new(big.Rat)
	}
	return l
}

// plus returns p + k q.
func plus(p model, k int64, q model) model {
	l := zeros(max(len(p), len(q)))
	for i, a := range p {
		l[i].Set(a)
	}
	for i, a := range q {
		l[i].Add(l[i], new(big.Rat).Mul(a, big.NewRat(k, 1)))
	}
	return cut(l)
}

func product(p, q model) model {
	l := zeros(len(p) + len(q))
	for i, a := range p {
		for k, b := range q {
			l[i+k].Add(l[i+k], new(big.Rat).Mul(a, b))
		}
	}
	return cut(l)
}

// products returns the product of any number of polynomials.
func products(l ...model) model {
	p := of(1)
	for _, q := range l {
		p = product(p, q)
	}
	return p
}

func scaled(p model, a *big.Rat) model {
	return product(p, cut(model{a}))
}

// power returns the power k of a number.
func power(a *big.Rat, k int) *big.Rat {
	p := big.NewRat(1, 1)
	for range k {
		p.Mul(p, a)
	}
	return p
}

func value(p model, x *big.Rat) *big.Rat {
	sum := new(big.Rat)
	for k, a := range p {
		sum.Add(sum, new(big.Rat).Mul(a, power(x, k)))
	}
	return sum
}

func derivative(p model) model {
	var l model
	for k, a := range p {
		if k > 0 {
			l = append(l, new(big.Rat).Mul(a, big.NewRat(int64(k), 1)))
		}
	}
	return l
}

// moved returns p(x + a) by the binomial theorem.
func moved(p model, a *big.Rat) model {
	l := zeros(len(p))
	for n, b := range p {
		for k := range n + 1 {
			choices := new(big.Rat).SetInt(new(big.Int).Binomial(int64(n), int64(k)))
			l[k].Add(l[k], choices.Mul(choices, new(big.Rat).Mul(b, power(a, n-k))))
		}
	}
	return cut(l)
}

// divided returns the quotient and the remainder for a q other than 0.
func divided(p, q model) (model, model) {
	quotient := zeros(len(p))
	for len(p) >= len(q) {
		k := len(p) - len(q)
		quotient[k].Quo(p[len(p)-1], q[len(q)-1])
		p = plus(p, -1, product(q, append(zeros(k), quotient[k])))
	}
	return cut(quotient), p
}

// unit returns the multiple with the last coefficient 1; 0 for 0.
func unit(p model) model {
	if len(p) == 0 {
		return nil
	}
	return scaled(p, new(big.Rat).Inv(p[len(p)-1]))
}

// divisor returns the greatest common divisor.
func divisor(p, q model) model {
	for len(q) > 0 {
		_, rest := divided(p, q)
		p, q = q, unit(rest)
	}
	return unit(p)
}

// whole returns an integer.
func whole(n *big.Int) api.Int {
	x, e := integer.Parse(n.String())
	if e != api.OK {
		panic(e)
	}
	return x
}

// canonical returns a number as chapter 5 describes it.
func canonical(n *big.Rat) api.Rat {
	a := api.Rat{P: whole(n.Num())}
	if !n.IsInt() {
		a.Q = whole(n.Denom())
	}
	return a
}

// poly returns a polynomial of the program, in memory of its own without any room behind it.
func (p model) poly() api.Poly {
	l := make(api.Poly, len(p))
	for k, a := range p {
		l[k] = canonical(a)
	}
	return l
}

// String returns the coefficients, that of the power 0 first.
func (p model) String() string {
	l := make([]string, len(p))
	for k, a := range p {
		l[k] = a.RatString()
	}
	return "(" + strings.Join(l, ", ") + ")"
}

// text returns the beginning of the text of a value.
func text(x any) string {
	s := fmt.Sprint(x)
	return s[:min(len(s), 400)]
}

// equalNumbers reports whether two numbers have the same P and Q.
func equalNumbers(a, b api.Rat) bool {
	return a.P.Neg == b.P.Neg && a.Q.Neg == b.Q.Neg && slices.Equal(a.P.D, b.P.D) && slices.Equal(a.Q.D, b.Q.D)
}

// equal reports whether two polynomials have the same coefficients.
func equal(p, q api.Poly) bool {
	return slices.EqualFunc(p, q, equalNumbers)
}

// texts returns the coefficients of a polynomial of the program.
func texts(p api.Poly) string {
	l := make([]string, len(p))
	for k, a := range p {
		l[k] = rat.Text(a)
	}
	return text("(" + strings.Join(l, ", ") + ")")
}

// same tests a polynomial that a function returned for some arguments.
func same(t *testing.T, name string, got api.Poly, want model, of ...any) {
	t.Helper()
	if !equal(got, want.poly()) {
		t.Fatalf("%s of %s: %s, not %s", name, text(of), texts(got), text(want))
	}
}

// sameNumber tests a number that a function returned for some arguments.
func sameNumber(t *testing.T, name string, got api.Rat, want *big.Rat, of ...any) {
	t.Helper()
	if !equalNumbers(got, canonical(want)) {
		t.Fatalf("%s of %s: %s, not %s", name, text(of), rat.Text(got), text(want))
	}
}

// agree tests that two polynomials that have to be equal are, and that they are polynomials.
func agree(t *testing.T, name string, p, q api.Poly, of ...any) {
	t.Helper()
	if !equal(p, q) || !poly.Valid(p) {
		t.Fatalf("%s for %s: %s and %s", name, text(of), texts(p), texts(q))
	}
}

// kept tests that arguments are what they were.
func kept(t *testing.T, p api.Poly, was model) {
	t.Helper()
	if !equal(p, was.poly()) {
		t.Fatal("an argument was changed:", text(was), texts(p))
	}
}

// source returns numbers without a pattern, the same ones in each run of a test.
func source(name string) *rand.Rand {
	var seed [32]byte
	copy(seed[:], name)
	return rand.New(rand.NewChaCha8(seed))
}

// number returns a number; it is often 0, an integer, or a fraction with a small denominator.
func number(r *rand.Rand) *big.Rat {
	switch r.IntN(6) {
	case 0:
		return new(big.Rat)
	case 1:
		return big.NewRat(int64(r.IntN(7)-3), 1)
	case 2:
		return big.NewRat(int64(r.IntN(41)-20), int64(1+r.IntN(6)))
	case 3:
		return big.NewRat(int64(r.IntN(2000001)-1000000), 1)
	case 4:
		return big.NewRat(r.Int64()-1<<62, 1+int64(r.IntN(1<<40)))
	}
	p := new(big.Int).Lsh(big.NewInt(r.Int64()-1<<62), uint(r.IntN(90)))
	return new(big.Rat).SetFrac(p, big.NewInt(1+r.Int64()>>r.IntN(63)))
}

// plain returns an integer of at most two digits or a number with a small denominator.
func plain(r *rand.Rand) *big.Rat {
	return big.NewRat(int64(r.IntN(121)-60), []int64{1, 1, 1, 2, 3, 4, 10}[r.IntN(7)])
}

// some returns a polynomial of at most a degree.
func some(r *rand.Rand, degree int, coefficient func(*rand.Rand) *big.Rat) model {
	var p model
	for range r.IntN(degree + 2) {
		p = append(p, coefficient(r))
	}
	return cut(p)
}

// full returns a polynomial of a degree with a given last coefficient.
func full(r *rand.Rand, degree int, last *big.Rat) model {
	var p model
	for range degree {
		p = append(p, plain(r))
	}
	return append(p, last)
}

// small returns all polynomials up to a degree with coefficients of a few numbers.
func small(degree int, numbers ...*big.Rat) []model {
	l := []model{nil}
	for k := range degree + 1 {
		for _, p := range l {
			for _, a := range numbers {
				if a.Sign() != 0 {
					l = append(l, append(append(slices.Clone(p), zeros(k-len(p))...), a))
				}
			}
		}
	}
	return l
}

// pairs calls f with all pairs of small polynomials and with other ones.
func pairs(name string, times int, f func(p, q model)) {
	l := small(2, big.NewRat(-1, 1), big.NewRat(1, 1), big.NewRat(2, 1), big.NewRat(1, 2))
	for _, p := range l {
		for _, q := range l {
			f(p, q)
		}
	}
	r := source(name)
	for range times {
		p, q := some(r, 10, number), some(r, 10, number)
		f(p, q)
		// Some coefficients of the sum or of the difference are 0, also the last ones.
		if n := min(len(p), len(q)); n > 0 {
			first := r.IntN(n)
			q = cut(append(slices.Clone(q[:first]), p[first:]...))
			f(p, q)
			f(p, scaled(q, big.NewRat(-1, 1)))
		}
	}
}

// singles calls f with small polynomials and with other ones.
func singles(name string, times int, f func(p model)) {
	for _, p := range small(3, big.NewRat(-2, 1), big.NewRat(1, 1), big.NewRat(1, 2)) {
		f(p)
	}
	r := source(name)
	for range times {
		f(some(r, 16, number))
	}
}
