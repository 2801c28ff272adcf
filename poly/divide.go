package poly

import (
	"gantry/api"
	"gantry/rat"
)

// inverse returns 1 / a; 0 for 0.
func inverse(a api.Rat) api.Rat {
	return rat.Div(rat.Of(1, 1), a)
}

// parts returns the numerator and the denominator of a number.
func parts(a api.Rat) (api.Rat, api.Rat) {
	return api.Rat{P: a.P}, api.Rat{P: rat.Den(a)}
}

// ratio returns the last coefficient of p divided by that of q.
func ratio(p, q api.Poly) api.Rat {
	return rat.Div(last(p), last(q))
}

// reduce returns p - m q x^s, with the s that makes both equally long, without its last coefficient. That is 0 if m is their ratio.
func reduce(p, q api.Poly, m api.Rat) api.Poly {
	shift := len(p) - len(q)
	return made(Degree(p), func(k int) api.Rat {
		if k < shift {
			return p[k]
		}
		return rat.Sub(p[k], rat.Mul(m, q[k-shift]))
	})
}

// Div returns the quotient and the remainder; 0 and 0 for q = 0.
func Div(p, q api.Poly) (api.Poly, api.Poly) {
	if len(q) == 0 {
		return nil, nil
	}
	quotient, rest := make(api.Poly, max(0, len(p)-len(q)+1)), p
	for len(rest) >= len(q) {
		m := ratio(rest, q)
		quotient[len(rest)-len(q)] = m
		rest = reduce(rest, q, m)
	}
	return quotient, rest
}

// multiple returns a multiple of the remainder of p and q other than 0. It consists of integers, if p and q do.
func multiple(p, q api.Poly) api.Poly {
	for len(p) >= len(q) {
		m, n := parts(ratio(p, q))
		p = reduce(Scale(p, n), q, m)
	}
	return p
}

// primitive returns the multiple of a polynomial that consists of integers without a common divisor but 1.
func primitive(p api.Poly) api.Poly {
	// All coefficients so far are integers times the common divisor.
	divisor := last(p)
	for _, a := range p {
		_, n := parts(rat.Div(a, divisor))
		divisor = rat.Div(divisor, n)
	}
	return Scale(p, inverse(divisor))
}

// monic returns the multiple of a polynomial whose last coefficient is 1; 0 for 0.
func monic(p api.Poly) api.Poly {
	return Scale(p, inverse(last(p)))
}

// Gcd returns the greatest common divisor with the leading coefficient 1; 0 for 0 and 0.
func Gcd(p, q api.Poly) api.Poly {
	// Integers need no search for common divisors in each step, unlike fractions; and as no divisor stays in all of them, they stay short.
	p, q = primitive(p), primitive(q)
	for len(q) > 0 {
		p, q = q, primitive(multiple(p, q))
	}
	return monic(p)
}

// Free returns the polynomial with the leading coefficient 1 that has the same zeros, each once; 0 for 0.
func Free(p api.Poly) api.Poly {
	quotient, _ := Div(p, Gcd(p, Derive(p)))
	return monic(quotient)
}
