package real_test

import (
	"fmt"
	"math/rand/v2"
	"slices"
	"strings"
	"testing"

	"gantry/api"
	"gantry/integer"
	"gantry/poly"
	"gantry/rat"
	"gantry/real"
)

// of returns the polynomial with the coefficients l[k] / d.
func of(d int, l ...int) api.Poly {
	var p []api.Rat
	for _, n := range l {
		p = append(p, rat.Of(n, d))
	}
	return poly.Trim(p)
}

// whole returns an integer as a number.
func whole(n int) api.Rat {
	return rat.Of(n, 1)
}

// big returns an integer as a number.
func big(n api.Int) api.Rat {
	return api.Rat{P: n}
}

// raise returns a^n.
func raise(a api.Rat, n int) api.Rat {
	b := whole(1)
	for range n {
		b = rat.Mul(b, a)
	}
	return b
}

// tiny returns 10^-n.
func tiny(n int) api.Rat {
	return raise(rat.Of(1, 10), n)
}

// power returns x^n for a polynomial x.
func power(x api.Poly, n int) api.Poly {
	p := of(1, 1)
	for range n {
		p = poly.Mul(p, x)
	}
	return p
}

// half returns the number halfway from a to b.
func half(a, b api.Rat) api.Rat {
	return rat.Div(rat.Add(a, b), whole(2))
}

// text describes arguments.
func text(l ...any) string {
	var words []string
	for _, x := range l {
		switch x := x.(type) {
		case api.Rat:
			words = append(words, rat.Text(x))
		case api.Int:
			words = append(words, integer.Text(x))
		case api.Poly:
			words = append(words, numbers(x))
		case [2]api.Rat:
			words = append(words, numbers(x[:]))
		case api.Real:
			words = append(words, "{"+numbers(x.P)+" "+numbers([]api.Rat{x.Lo, x.Hi})+"}")
		case zero:
			words = append(words, "["+rat.Text(x.a)+" "+fmt.Sprint(x.sign, x.n)+" "+rat.Text(x.d)+"]")
		default:
			words = append(words, fmt.Sprint(x))
		}
	}
	s := strings.Join(words, " ")
	return s[:min(len(s), 600)]
}

func numbers(l []api.Rat) string {
	var words []string
	for _, a := range l {
		words = append(words, rat.Text(a))
	}
	return "(" + strings.Join(words, ", ") + ")"
}

// same reports whether two real numbers are equal in all their parts.
func same(x, y api.Real) bool {
	return slices.EqualFunc(x.P, y.P, rat.Same) && rat.Same(x.Lo, y.Lo) && rat.Same(x.Hi, y.Hi)
}

// copied returns a copy of a real number that shares no memory with it.
func copied(x api.Real) api.Real {
	digits := func(n api.Int) api.Int { return api.Int{Neg: n.Neg, D: slices.Clone(n.D)} }
	number := func(a api.Rat) api.Rat { return api.Rat{P: digits(a.P), Q: digits(a.Q)} }
	y := api.Real{Lo: number(x.Lo), Hi: number(x.Hi)}
	for _, a := range x.P {
		y.P = append(y.P, number(a))
	}
	return y
}

// source returns numbers without a pattern, the same ones in each run of a test.
func source(name string) *rand.Rand {
	var seed [32]byte
	copy(seed[:], name)
	return rand.New(rand.NewChaCha8(seed))
}

// plain returns an integer or a number with a small denominator.
func plain(r *rand.Rand) api.Rat {
	return rat.Of(r.IntN(25)-12, []int{1, 1, 1, 2, 3}[r.IntN(5)])
}

// unusual returns a number that is often 0, or far longer than others.
func unusual(r *rand.Rand) api.Rat {
	switch r.IntN(5) {
	case 0:
		return api.Rat{}
	case 1:
		return rat.Of(int(r.Int64()-1<<62), 1+r.IntN(1<<40))
	case 2:
		return rat.Mul(rat.Of(int(r.Int64()-1<<62), 1), rat.Of(1+r.IntN(1<<50), 1+r.IntN(9)))
	}
	return plain(r)
}

// some returns a polynomial of at most a degree.
func some(r *rand.Rand, degree int, coefficient func(*rand.Rand) api.Rat) api.Poly {
	var l []api.Rat
	for range r.IntN(degree + 2) {
		l = append(l, coefficient(r))
	}
	return poly.Trim(l)
}

// small returns all polynomials of at most a degree with coefficients of a few integers.
func small(degree int, l ...int) []api.Poly {
	all := [][]api.Rat{nil}
	for range degree + 1 {
		var longer [][]api.Rat
		for _, p := range all {
			for _, n := range l {
				longer = append(longer, append(slices.Clone(p), whole(n)))
			}
		}
		all = longer
	}
	var out []api.Poly
	for _, p := range all {
		out = append(out, poly.Trim(p))
	}
	return out
}

// A zero is the number a + sign * d^(1/n), which occurs some times. If sign is not 0, d is positive and no power n of a rational number, so that different ones are different numbers.
type zero struct {
	a       api.Rat
	sign, n int
	d       api.Rat
	times   int
}

// against returns the sign of a zero less x.
func (z zero) against(x api.Rat) int {
	away := rat.Sub(x, z.a)
	side := rat.Sign(away)
	if z.sign == 0 || side != z.sign {
		return max(-1, min(1, z.sign-side))
	}
	length := raise(away, z.n)
	if rat.Sign(length) < 0 {
		length = rat.Neg(length)
	}
	return z.sign * rat.Compare(z.d, length)
}

// is reports whether two zeros are the same number.
func (z zero) is(w zero) bool {
	if z.sign == 0 || w.sign == 0 {
		return z.sign == w.sign && rat.Same(z.a, w.a)
	}
	return z.sign == w.sign && z.n == w.n && rat.Same(z.a, w.a) && rat.Same(z.d, w.d)
}

// ends returns the ends of a narrow interval that has the zero inside.
func (z zero) ends() []api.Rat {
	lo, hi := rat.Sub(z.a, whole(100)), rat.Add(z.a, whole(101))
	for range 32 {
		mid := half(lo, hi)
		if z.against(mid) > 0 {
			lo = mid
		} else {
			hi = mid
		}
	}
	return []api.Rat{lo, hi}
}

// compare returns the sign of z - w.
func (z zero) compare(w zero) int {
	if z.is(w) {
		return 0
	}
	lo, hi := whole(-1), whole(1)
	for z.against(lo) <= 0 || z.against(hi) >= 0 {
		lo, hi = rat.Mul(lo, whole(1000)), rat.Mul(hi, whole(1000))
	}
	for {
		mid := half(lo, hi)
		side, other := z.against(mid), w.against(mid)
		switch {
		case side > other:
			return 1
		case side < other:
			return -1
		case side > 0:
			lo = mid
		default:
			hi = mid
		}
	}
}

// A known is a polynomial whose zeros are known.
type known struct {
	p     api.Poly
	zeros []zero
}

// constant returns a number as a polynomial.
func constant(a api.Rat) known {
	return known{p: poly.Trim([]api.Rat{a})}
}

// join returns the product of polynomials that have no zeros in common.
func join(l ...known) known {
	all := constant(whole(1))
	for _, k := range l {
		all.p = poly.Mul(all.p, k.p)
		all.zeros = append(all.zeros, k.zeros...)
	}
	return all
}

// often returns a power of a polynomial.
func often(k known, times int) known {
	out := known{p: power(k.p, times)}
	for _, z := range k.zeros {
		z.times *= times
		out.zeros = append(out.zeros, z)
	}
	return out
}

// at returns x - a.
func at(a api.Rat) known {
	return known{poly.Trim([]api.Rat{rat.Neg(a), whole(1)}), []zero{{a: a, times: 1}}}
}

// square returns (x - a)^2 - d. If d is positive, it is no square.
func square(a, d api.Rat) known {
	p := poly.Sub(power(at(a).p, 2), constant(d).p)
	if rat.Sign(d) < 0 {
		return known{p: p}
	}
	return known{p, []zero{{a, -1, 2, d, 1}, {a, 1, 2, d, 1}}}
}

// cube returns (x - a)^3 - sign d. The positive number d is no cube.
func cube(a api.Rat, sign int, d api.Rat) known {
	p := poly.Sub(power(at(a).p, 3), constant(rat.Mul(whole(sign), d)).p)
	return known{p, []zero{{a, sign, 3, d, 1}}}
}

// sorted returns the zeros in increasing order.
func (k known) sorted() []zero {
	return slices.SortedFunc(slices.Values(k.zeros), zero.compare)
}

// count returns how many zeros are greater than lo and at most hi.
func (k known) count(lo, hi api.Rat) int {
	n := 0
	for _, z := range k.zeros {
		if z.against(lo) > 0 && z.against(hi) <= 0 {
			n++
		}
	}
	return n
}

// sign returns the sign of the value at a zero of any polynomial.
func (k known) sign(z zero) int {
	s := rat.Sign(k.p[len(k.p)-1])
	for _, w := range k.zeros {
		side := z.compare(w)
		if side == 0 {
			return 0
		}
		if w.times%2 == 1 {
			s *= side
		}
	}
	return s
}

// spots returns numbers at which something may change: rational zeros, numbers beside them and between others, in increasing order.
func (k known) spots() []api.Rat {
	l := []api.Rat{whole(-1000000000), whole(-5), rat.Of(-1, 7), rat.Of(5, 4), rat.Of(7, 5), whole(3), whole(1000000000)}
	for _, z := range k.zeros {
		near := rat.Of(1, 1000)
		l = append(l, z.a, rat.Sub(z.a, near), rat.Add(z.a, near))
		l = append(l, z.ends()...)
	}
	slices.SortFunc(l, rat.Compare)
	return slices.CompactFunc(l, rat.Same)
}

// forms returns valid numbers whose value is a zero of k: with wide and narrow intervals, which can begin with other zeros, and end with the zero itself.
func (k known) forms(z zero) []api.Real {
	p := poly.Free(k.p)
	var l []api.Real
	spots := k.spots()
	for _, lo := range spots {
		for _, hi := range spots {
			if z.against(lo) > 0 && z.against(hi) <= 0 && k.count(lo, hi) == 1 {
				l = append(l, api.Real{P: p, Lo: lo, Hi: hi})
			}
		}
	}
	if z.sign == 0 {
		l = append(l, real.Of(z.a))
	}
	return l
}

// factors returns polynomials that have no zeros in common.
func factors() []known {
	return []known{
		at(whole(0)),
		at(whole(1)),
		at(whole(-2)),
		at(rat.Of(1, 2)),
		at(rat.Of(-7, 3)),
		at(rat.Of(1000001, 1000000)),
		at(rat.Of(3000000000, 7)),
		square(whole(0), whole(2)),
		square(whole(1), rat.Of(1, 3)),
		square(rat.Of(-3, 2), whole(7)),
		square(whole(0), rat.Of(1, 1000000007)),
		square(whole(0), whole(-1)),
		square(rat.Of(1, 2), rat.Of(-3, 4)),
		square(whole(1), rat.Of(-1, 1000000000)),
		cube(whole(0), 1, whole(2)),
		cube(rat.Of(-1, 3), -1, whole(5)),
	}
}

// mixed returns a product of different factors, each some times, up to a degree.
func mixed(r *rand.Rand, degree int) known {
	all := factors()
	r.Shuffle(len(all), func(i, j int) { all[i], all[j] = all[j], all[i] })
	k := constant(rat.Of(1+r.IntN(9), (1+r.IntN(9))*(1-2*r.IntN(2))))
	for _, f := range all[:r.IntN(6)] {
		f = often(f, []int{1, 1, 1, 2, 2, 3, 4, 5}[r.IntN(8)])
		if poly.Degree(k.p)+poly.Degree(f.p) <= degree {
			k = join(k, f)
		}
	}
	return k
}

// A made number is a valid number with its value.
type made struct {
	x api.Real
	z zero
}

// several returns numbers of all kinds, among them different ones with equal values.
func several(r *rand.Rand, n int) []made {
	var l []made
	for len(l) < n {
		k := mixed(r, 9)
		for _, z := range k.zeros {
			forms := k.forms(z)
			l = append(l, made{forms[r.IntN(len(forms))], z})
		}
		zeros, _ := real.Zeros(k.p)
		for i, z := range k.sorted() {
			l = append(l, made{zeros[i], z})
		}
	}
	return l[:n]
}

// A root is u + v * d^(1/2), for the d of a square.
type root struct {
	u, v, d api.Rat
}

// value returns the value of a polynomial at a + sign * d^(1/2).
func value(q api.Poly, z zero) root {
	sum := root{d: z.d}
	for _, c := range slices.Backward(q) {
		away := rat.Mul(whole(z.sign), sum.v)
		sum.u, sum.v = rat.Add(rat.Dot([]api.Rat{sum.u, away}, []api.Rat{z.a, z.d}), c), rat.Dot([]api.Rat{sum.u, sum.v}, []api.Rat{whole(z.sign), z.a})
	}
	return sum
}

// sign returns the sign of a root.
func (v root) sign() int {
	s, t := rat.Sign(v.u), rat.Sign(v.v)
	if s == t || t == 0 {
		return s
	}
	if s == 0 {
		return t
	}
	return s * rat.Compare(rat.Mul(v.u, v.u), rat.Mul(v.d, rat.Mul(v.v, v.v)))
}

// The models agree with each other.
func TestModels(t *testing.T) {
	r := source("Models")
	for range 100 {
		k := mixed(r, 12)
		l := k.sorted()
		for i, z := range l {
			if i > 0 && l[i-1].compare(z) >= 0 {
				t.Fatal("the order of zeros", text(l[i-1], z))
			}
			if z.n != 2 {
				continue
			}
			for _, q := range []known{k, mixed(r, 6)} {
				if s := value(q.p, z).sign(); s != q.sign(z) {
					t.Fatal("the sign of", text(q.p, z), s)
				}
			}
		}
		for _, x := range k.spots() {
			if s := k.sign(zero{a: x}); s != rat.Sign(poly.Eval(k.p, x)) {
				t.Fatal("the sign of", text(k.p, x), s)
			}
		}
	}
}
