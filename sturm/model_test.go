package sturm_test

import (
	"fmt"
	"math/rand/v2"
	"slices"
	"strings"
	"testing"

	"gantry/api"
	"gantry/poly"
	"gantry/rat"
)

// of returns the polynomial with the coefficients l[k] / d.
func of(d int, l ...int) api.Poly {
	var p []api.Rat
	for _, n := range l {
		p = append(p, rat.Of(n, d))
	}
	return poly.Trim(p)
}

// whole returns an integer as a number.
func whole(n int) api.Rat {
	return rat.Of(n, 1)
}

// power returns x^n for a polynomial x.
func power(x api.Poly, n int) api.Poly {
	p := of(1, 1)
	for range n {
		p = poly.Mul(p, x)
	}
	return p
}

// products returns the product of any number of polynomials.
func products(l ...api.Poly) api.Poly {
	p := of(1, 1)
	for _, q := range l {
		p = poly.Mul(p, q)
	}
	return p
}

// half returns the number halfway from a to b.
func half(a, b api.Rat) api.Rat {
	return rat.Div(rat.Add(a, b), whole(2))
}

// text describes arguments.
func text(l ...any) string {
	var words []string
	for _, x := range l {
		switch x := x.(type) {
		case api.Rat:
			words = append(words, rat.Text(x))
		case []api.Rat:
			words = append(words, numbers(x))
		case api.Poly:
			words = append(words, numbers(x))
		case [2]api.Rat:
			words = append(words, numbers(x[:]))
		default:
			words = append(words, fmt.Sprint(x))
		}
	}
	s := strings.Join(words, " ")
	return s[:min(len(s), 600)]
}

func numbers(l []api.Rat) string {
	var words []string
	for _, a := range l {
		words = append(words, rat.Text(a))
	}
	return "(" + strings.Join(words, ", ") + ")"
}

// equal reports whether two polynomials have the same coefficients.
func equal(p, q api.Poly) bool {
	return slices.EqualFunc(p, q, rat.Same)
}

// source returns numbers without a pattern, the same ones in each run of a test.
func source(name string) *rand.Rand {
	var seed [32]byte
	copy(seed[:], name)
	return rand.New(rand.NewChaCha8(seed))
}

// plain returns an integer or a number with a small denominator.
func plain(r *rand.Rand) api.Rat {
	return rat.Of(r.IntN(25)-12, []int{1, 1, 1, 2, 3}[r.IntN(5)])
}

// unusual returns a number that is often 0, or far longer than others.
func unusual(r *rand.Rand) api.Rat {
	switch r.IntN(5) {
	case 0:
		return api.Rat{}
	case 1:
		return rat.Of(int(r.Int64()-1<<62), 1+r.IntN(1<<40))
	case 2:
		return rat.Mul(rat.Of(int(r.Int64()-1<<62), 1), rat.Of(1+r.IntN(1<<50), 1+r.IntN(9)))
	}
	return plain(r)
}

// some returns a polynomial of at most a degree.
func some(r *rand.Rand, degree int, coefficient func(*rand.Rand) api.Rat) api.Poly {
	var l []api.Rat
	for range r.IntN(degree + 2) {
		l = append(l, coefficient(r))
	}
	return poly.Trim(l)
}

// small returns all polynomials of at most a degree with coefficients of a few integers.
func small(degree int, l ...int) []api.Poly {
	all := [][]api.Rat{nil}
	for range degree + 1 {
		var longer [][]api.Rat
		for _, p := range all {
			for _, n := range l {
				longer = append(longer, append(slices.Clone(p), whole(n)))
			}
		}
		all = longer
	}
	var out []api.Poly
	for _, p := range all {
		out = append(out, poly.Trim(p))
	}
	return out
}

// A zero is the number a + sign * d^(1/n), which occurs some times. If sign is not 0, d is positive and no power n of a rational number, so that different ones are different numbers.
type zero struct {
	a       api.Rat
	sign, n int
	d       api.Rat
	times   int
}

// against returns the sign of a zero less x.
func (z zero) against(x api.Rat) int {
	away := rat.Sub(x, z.a)
	side := rat.Sign(away)
	if z.sign == 0 || side != z.sign {
		return max(-1, min(1, z.sign-side))
	}
	length := whole(1)
	for range z.n {
		length = rat.Mul(length, away)
	}
	if rat.Sign(length) < 0 {
		length = rat.Neg(length)
	}
	return z.sign * rat.Compare(z.d, length)
}

// A known is a polynomial whose zeros are known.
type known struct {
	p     api.Poly
	zeros []zero
}

// constant returns a number as a polynomial.
func constant(a api.Rat) known {
	return known{p: poly.Trim([]api.Rat{a})}
}

// join returns the product of polynomials that have no zeros in common.
func join(l ...known) known {
	all := constant(whole(1))
	for _, k := range l {
		all.p = poly.Mul(all.p, k.p)
		all.zeros = append(all.zeros, k.zeros...)
	}
	return all
}

// often returns a power of a polynomial.
func often(k known, times int) known {
	out := known{p: power(k.p, times)}
	for _, z := range k.zeros {
		z.times *= times
		out.zeros = append(out.zeros, z)
	}
	return out
}

// at returns x - a.
func at(a api.Rat) known {
	return known{poly.Trim([]api.Rat{rat.Neg(a), whole(1)}), []zero{{a: a, times: 1}}}
}

// square returns (x - a)^2 - d. If d is positive, it is no square.
func square(a, d api.Rat) known {
	p := poly.Sub(power(at(a).p, 2), constant(d).p)
	if rat.Sign(d) < 0 {
		return known{p: p}
	}
	return known{p, []zero{{a, -1, 2, d, 1}, {a, 1, 2, d, 1}}}
}

// cube returns (x - a)^3 - sign d. The positive number d is no cube.
func cube(a api.Rat, sign int, d api.Rat) known {
	p := poly.Sub(power(at(a).p, 3), constant(rat.Mul(whole(sign), d)).p)
	return known{p, []zero{{a, sign, 3, d, 1}}}
}

// count returns how many zeros are greater than lo and at most hi.
func (k known) count(lo, hi api.Rat) int {
	n := 0
	for _, z := range k.zeros {
		if z.against(lo) > 0 && z.against(hi) <= 0 {
			n++
		}
	}
	return n
}

// sign returns the sign of the value at x.
func (k known) sign(x api.Rat) int {
	s := rat.Sign(k.p[len(k.p)-1])
	for _, z := range k.zeros {
		side := -z.against(x)
		if side == 0 {
			return 0
		}
		if z.times%2 == 1 {
			s *= side
		}
	}
	return s
}

// stays reports whether there is no negative value from lo to hi.
func (k known) stays(lo, hi api.Rat) bool {
	order := rat.Compare(lo, hi)
	switch {
	case len(k.p) == 0 || order > 0:
		return true
	case order == 0:
		return k.sign(lo) >= 0
	}
	// The sign just above lo is that of the last coefficient, unless an odd number of zeros is greater.
	s := rat.Sign(k.p[len(k.p)-1])
	for _, z := range k.zeros {
		if z.times%2 == 0 || z.against(lo) <= 0 {
			continue
		}
		if z.against(hi) < 0 {
			return false
		}
		s = -s
	}
	return s > 0
}

// factors returns polynomials that have no zeros in common.
func factors() []known {
	return []known{
		at(whole(0)),
		at(whole(1)),
		at(whole(-2)),
		at(rat.Of(1, 2)),
		at(rat.Of(-7, 3)),
		at(rat.Of(1000001, 1000000)),
		at(rat.Of(3000000000, 7)),
		square(whole(0), whole(2)),
		square(whole(1), rat.Of(1, 3)),
		square(rat.Of(-3, 2), whole(7)),
		square(whole(0), rat.Of(1, 1000000007)),
		square(whole(0), whole(-1)),
		square(rat.Of(1, 2), rat.Of(-3, 4)),
		square(whole(1), rat.Of(-1, 1000000000)),
		cube(whole(0), 1, whole(2)),
		cube(rat.Of(-1, 3), -1, whole(5)),
	}
}

// mixed returns a product of different factors, each some times, up to a degree.
func mixed(r *rand.Rand, degree int) known {
	all := factors()
	r.Shuffle(len(all), func(i, j int) { all[i], all[j] = all[j], all[i] })
	k := constant(rat.Of(1+r.IntN(9), (1+r.IntN(9))*(1-2*r.IntN(2))))
	for _, f := range all[:r.IntN(6)] {
		f = often(f, []int{1, 1, 1, 2, 2, 3, 4, 5}[r.IntN(8)])
		if poly.Degree(k.p)+poly.Degree(f.p) <= degree {
			k = join(k, f)
		}
	}
	return k
}

// spots returns numbers at which something may change: rational zeros, numbers beside them and between others, in increasing order.
func (k known) spots() []api.Rat {
	l := []api.Rat{whole(-1000000000), whole(-5), rat.Of(-1, 7), rat.Of(5, 4), rat.Of(7, 5), whole(3), whole(1000000000)}
	for _, z := range k.zeros {
		near := rat.Of(1, 1000)
		l = append(l, z.a, rat.Sub(z.a, near), rat.Add(z.a, near))
	}
	slices.SortFunc(l, rat.Compare)
	return slices.CompactFunc(l, rat.Same)
}

// changes counts the changes of sign in a list of coefficients.
func changes(l []api.Rat) int {
	n, before := 0, 0
	for _, a := range l {
		if s := rat.Sign(a); s != 0 {
			if s == -before {
				n++
			}
			before = s
		}
	}
	return n
}

// between returns the number of zeros that are greater than lo and less than hi, of a polynomial that has each zero once. It follows from Descartes' rule of signs, without a chain.
func between(p api.Poly, lo, hi api.Rat) int {
	// The zeros of moved are those of p in the interval, moved to the interval from 0 to 1.
	moved := slices.Clone(poly.Shift(p, lo))
	scale := whole(1)
	for k := range moved {
		moved[k] = rat.Mul(moved[k], scale)
		scale = rat.Mul(scale, rat.Sub(hi, lo))
	}
	slices.Reverse(moved)
	// And those of spread are 1 / z - 1 for these zeros z.
	spread := poly.Shift(poly.Trim(moved), whole(1))
	if n := changes(spread); n <= 1 {
		return n
	}
	mid, n := half(lo, hi), 0
	if rat.Sign(poly.Eval(p, mid)) == 0 {
		n = 1
	}
	return n + between(p, lo, mid) + between(p, mid, hi)
}

// count returns the number of different zeros that are greater than lo and at most hi, for a lo less than hi.
func count(p api.Poly, lo, hi api.Rat) int {
	free := poly.Free(p)
	if len(free) == 0 {
		return 0
	}
	n := between(free, lo, hi)
	if rat.Sign(poly.Eval(free, hi)) == 0 {
		n++
	}
	return n
}

// kept tests that an argument is what it was.
func kept(t *testing.T, p, was api.Poly) {
	t.Helper()
	if !equal(p, was) {
		t.Fatal("an argument was changed:", text(was, p))
	}
}

// The models agree with each other.
func TestModels(t *testing.T) {
	r := source("Models")
	for range 150 {
		k := mixed(r, 12)
		l := k.spots()
		for i, x := range l {
			if s := k.sign(x); s != rat.Sign(poly.Eval(k.p, x)) {
				t.Fatal("the sign", text(k.p, x), s)
			}
			if i > 0 && k.count(l[i-1], x) != count(k.p, l[i-1], x) {
				t.Fatal("the number of zeros", text(k.p, l[i-1], x), k.count(l[i-1], x), count(k.p, l[i-1], x))
			}
		}
	}
}
