package real_test

import (
	"slices"
	"testing"

	"gantry/api"
	"gantry/integer"
	"gantry/poly"
	"gantry/rat"
	"gantry/real"
)

// near returns Near, after testing it.
func near(t *testing.T, x api.Real, width api.Rat) [2]api.Rat {
	t.Helper()
	l := real.Near(x, width)
	if !rat.Valid(l[0]) || !rat.Valid(l[1]) || real.Against(x, l[0]) < 0 || real.Against(x, l[1]) > 0 {
		t.Fatal("P8.6: Near", text(x, width, l))
	}
	if rat.Sign(width) > 0 && rat.Compare(rat.Sub(l[1], l[0]), width) > 0 {
		t.Fatal("P8.6: Near is too wide:", text(x, width, l))
	}
	return l
}

// P8.3, P8.10.
func TestCompare(t *testing.T) {
	r := source("Compare")
	l := several(r, 80)
	var seen [3]int
	for _, m := range l {
		was := copied(m.x)
		for _, n := range l {
			want := m.z.compare(n.z)
			if got := real.Compare(m.x, n.x); got != want {
				t.Fatal("P8.3: Compare", text(m.x, n.x), got, "not", want)
			}
			if !same(m.x, n.x) {
				seen[want+1]++
			}
		}
		if !same(m.x, was) {
			t.Fatal("an argument was changed:", text(was, m.x))
		}
	}
	if slices.Min(seen[:]) < 100 {
		t.Error("just a few of one kind:", seen)
	}
}

// P8.3: all numbers that have the same value, and those beside it.
func TestCompareForms(t *testing.T) {
	r := source("CompareForms")
	for range 12 {
		k := mixed(r, 8)
		for i, z := range k.sorted() {
			other := join(often(at(rat.Of(22, 7)), 1), k)
			forms := append(k.forms(z), other.forms(z)...)
			var beside []made
			for j, w := range k.sorted() {
				if j != i {
					l := k.forms(w)
					beside = append(beside, made{l[r.IntN(len(l))], w})
				}
			}
			for _, x := range forms {
				y := forms[r.IntN(len(forms))]
				if real.Compare(x, y) != 0 || real.Compare(y, x) != 0 {
					t.Fatal("P8.3: Compare of equal values", text(x, y))
				}
				for _, m := range beside {
					want := z.compare(m.z)
					if real.Compare(x, m.x) != want || real.Compare(m.x, x) != -want {
						t.Fatal("P8.3: Compare", text(x, m.x), "is not", want)
					}
				}
			}
		}
	}
}

// P8.3: values that differ by very little.
func TestCompareClose(t *testing.T) {
	two := zero{sign: 1, n: 2, d: whole(2)}
	for _, n := range []int{1, 5, 20, 60, 200} {
		for _, side := range []int{-1, 1} {
			d := rat.Add(whole(2), rat.Mul(whole(side*3), tiny(n)))
			k := square(whole(0), d)
			x := root2(whole(1), whole(2))
			y := api.Real{P: k.p, Lo: whole(1), Hi: whole(2)}
			if real.Compare(x, y) != -side || real.Compare(y, x) != side || real.Sign(k.p, x) != -side || real.Sign(x.P, y) != side {
				t.Fatal("P8.3: close roots", n, side)
			}
			// The same factor in both makes them have a common zero elsewhere, which is even within the first interval of each.
			more := square(whole(0), whole(3))
			x.P, y.P = poly.Mul(x.P, more.p), poly.Mul(y.P, more.p)
			x.Hi, y.Hi = rat.Of(3, 2), rat.Of(8, 5)
			if !real.Valid(x) || !real.Valid(y) || real.Compare(x, y) != -side || real.Compare(y, x) != side {
				t.Fatal("P8.3: close roots with a factor", n, side)
			}
			l := near(t, x, tiny(n))
			for _, a := range l {
				if c := real.Compare(x, real.Of(a)); c != two.against(a) || real.Compare(real.Of(a), x) != -c || real.Against(x, a) != c {
					t.Fatal("P8.10: an end of an interval", text(x, a), c)
				}
			}
		}
	}
}

// P8.3: a common zero of both polynomials that is only one of the values, or just outside of an interval.
func TestCompareShared(t *testing.T) {
	two := square(whole(0), whole(2))
	for _, n := range []int{1, 5, 20, 60, 200} {
		for _, side := range []int{-1, 1} {
			beside := square(whole(0), rat.Add(whole(2), rat.Mul(whole(side), tiny(n))))
			both := join(two, beside)
			lower, upper := two.zeros[1], beside.zeros[1]
			if side < 0 {
				lower, upper = upper, lower
			}
			lo, hi := whole(1), whole(2)
			mid := half(lo, hi)
			for ; lower.against(mid) >= 0 || upper.against(mid) <= 0; mid = half(lo, hi) {
				if lower.against(mid) > 0 {
					lo = mid
				} else {
					hi = mid
				}
			}
			below, above := api.Real{P: both.p, Lo: whole(1), Hi: mid}, api.Real{P: both.p, Lo: mid, Hi: whole(2)}
			all := []made{{below, lower}, {above, upper}, {root2(whole(1), whole(2)), two.zeros[1]}, {api.Real{P: beside.p, Lo: whole(1), Hi: whole(2)}, beside.zeros[1]}}
			for i, x := range all {
				if !real.Valid(x.x) {
					t.Fatal("not valid", n, side, i)
				}
				for j, y := range all {
					if c := real.Compare(x.x, y.x); c != x.z.compare(y.z) {
						t.Fatal("P8.3: Compare", n, side, i, j, c)
					}
				}
			}
		}
	}
}

// P8.3, P8.4: two zeros of one polynomial that differ by less than 10^-26.
func TestClosePair(t *testing.T) {
	line := of(1, -1, 1000)
	p := poly.Sub(power(of(1, 0, 1), 16), poly.Mul(of(1, 2), power(line, 2)))
	l, _ := real.Zeros(p)
	for i, x := range l {
		for j, y := range l {
			if c := real.Compare(x, y); c != max(-1, min(1, i-j)) {
				t.Fatal("P8.3: zeros", i, j, c)
			}
		}
	}
	if len(l) != 4 || real.Sign(line, l[1]) != -1 || real.Sign(line, l[2]) != 1 {
		t.Fatal("P8.4: on both sides of 1/1000")
	}
}

// P8.3, P8.10.
func TestAgainst(t *testing.T) {
	r := source("Against")
	for _, m := range several(r, 150) {
		k := known{zeros: []zero{m.z}}
		l := append(k.spots(), m.x.Lo, m.x.Hi, half(m.x.Lo, m.x.Hi), plain(r), unusual(r), rat.Add(m.z.a, tiny(25)), rat.Sub(m.z.a, tiny(25)))
		for _, a := range l {
			want := m.z.against(a)
			if got := real.Against(m.x, a); got != want {
				t.Fatal("P8.3: Against", text(m.x, a), got, "not", want)
			}
			if real.Compare(m.x, real.Of(a)) != want || real.Compare(real.Of(a), m.x) != -want {
				t.Fatal("P8.10: Compare with Of", text(m.x, a), "is not", want)
			}
			if real.Sign(at(a).p, m.x) != want {
				t.Fatal("P8.10: the sign of x - a", text(m.x, a), "is not", want)
			}
		}
	}
}

// P8.4: polynomials whose zeros are known.
func TestSign(t *testing.T) {
	r := source("Sign")
	var seen [3]int
	for _, m := range several(r, 60) {
		was := copied(m.x)
		for range 8 {
			k := mixed(r, 12)
			want := k.sign(m.z)
			kept := slices.Clone(k.p)
			if got := real.Sign(k.p, m.x); got != want {
				t.Fatal("P8.4: Sign", text(k.p, m.x), got, "not", want)
			}
			if !slices.EqualFunc(k.p, kept, rat.Same) {
				t.Fatal("an argument was changed:", text(kept, k.p))
			}
			seen[want+1]++
		}
		if real.Sign(nil, m.x) != 0 || real.Sign(m.x.P, m.x) != 0 || real.Sign(of(1, 7), m.x) != 1 || real.Sign(of(9, -1), m.x) != -1 {
			t.Fatal("P8.4: Sign of constants", text(m.x))
		}
		if !same(m.x, was) {
			t.Fatal("an argument was changed:", text(was, m.x))
		}
	}
	if slices.Min(seen[:]) < 50 {
		t.Error("just a few of one kind:", seen)
	}
}

// P8.4: any polynomials, and those that are very small at the number.
func TestSignAny(t *testing.T) {
	r := source("SignAny")
	for _, m := range several(r, 300) {
		if m.z.n != 2 {
			continue
		}
		// A remainder of any polynomial, or one that is moved by very little.
		for _, q := range []api.Poly{some(r, 8, plain), some(r, 16, unusual), poly.Mul(m.x.P, some(r, 4, plain))} {
			for _, more := range []api.Poly{nil, poly.Scale(of(1, 1), tiny(30)), poly.Scale(of(1, 1, -1), tiny(12))} {
				p := poly.Add(q, more)
				want := value(p, m.z).sign()
				if got := real.Sign(p, m.x); got != want {
					t.Fatal("P8.4: Sign", text(p, m.x), got, "not", want)
				}
			}
		}
	}
}

// P8.5.
func TestFloor(t *testing.T) {
	r := source("Floor")
	test := func(m made) {
		t.Helper()
		was := copied(m.x)
		f, c := real.Floor(m.x), real.Ceil(m.x)
		if !integer.Valid(f) || !integer.Valid(c) {
			t.Fatal("P8.5: an integer is not valid", text(m.x))
		}
		if m.z.against(big(f)) < 0 || m.z.against(rat.Add(big(f), whole(1))) >= 0 {
			t.Fatal("P8.5: Floor", text(m.x, f))
		}
		if m.z.against(big(c)) > 0 || m.z.against(rat.Sub(big(c), whole(1))) <= 0 {
			t.Fatal("P8.5: Ceil", text(m.x, c))
		}
		if !same(m.x, was) {
			t.Fatal("an argument was changed:", text(was, m.x))
		}
	}
	for _, m := range several(r, 200) {
		test(m)
	}
	// Around integers, with all kinds of ends.
	for _, n := range []int{-1000000000000, -3, -1, 0, 1, 2, 1 << 40} {
		for _, away := range []api.Rat{whole(0), tiny(1), tiny(30), rat.Of(1, 2)} {
			for _, side := range []int{-1, 1} {
				a := rat.Add(whole(n), rat.Mul(whole(side), away))
				test(made{real.Of(a), zero{a: a}})
				for _, k := range []known{at(a), join(at(a), at(rat.Add(a, whole(2))), at(rat.Sub(a, whole(3)))), join(at(a), square(rat.Sub(a, whole(9)), whole(3)))} {
					for _, lo := range []api.Rat{rat.Of(1, 3), whole(1), rat.Of(5, 2), whole(3)} {
						for _, hi := range []api.Rat{whole(0), rat.Of(1, 7), whole(1), rat.Of(3, 2)} {
							test(made{api.Real{P: k.p, Lo: rat.Sub(a, lo), Hi: rat.Add(a, hi)}, zero{a: a}})
						}
					}
				}
			}
			if rat.Sign(away) == 0 {
				continue
			}
			// Irrational, and just beside an integer.
			k := square(whole(n), rat.Mul(whole(2), rat.Mul(away, away)))
			for _, z := range k.zeros {
				for _, x := range k.forms(z) {
					test(made{x, z})
				}
			}
		}
	}
	// Far away, and from very wide intervals.
	far := raise(whole(10), 40)
	k := square(whole(0), rat.Mul(whole(2), far))
	for _, z := range k.zeros {
		x := api.Real{P: k.p, Lo: api.Rat{}, Hi: raise(far, 5)}
		if z.sign < 0 {
			x.Lo, x.Hi = rat.Neg(x.Hi), x.Lo
		}
		test(made{x, z})
	}
}

// P8.6.
func TestNear(t *testing.T) {
	r := source("Near")
	for _, m := range several(r, 120) {
		was := copied(m.x)
		for _, width := range []api.Rat{raise(whole(10), 12), whole(2), whole(1), rat.Of(1, 3), tiny(2), tiny(9), tiny(30), {}, whole(-1)} {
			l := near(t, m.x, width)
			if m.z.against(l[0]) < 0 || m.z.against(l[1]) > 0 {
				t.Fatal("P8.6: Near", text(m.x, width, l))
			}
		}
		if !same(m.x, was) {
			t.Fatal("an argument was changed:", text(was, m.x))
		}
	}
	// Many digits, from wide intervals, of a polynomial of any degree.
	for n := 2; n <= 16; n++ {
		p := poly.Sub(power(of(1, 0, 1), n), of(1, 2))
		l := near(t, api.Real{P: p, Lo: whole(0), Hi: raise(whole(10), 20)}, tiny(150))
		z := zero{sign: 1, n: n, d: whole(2)}
		if z.against(l[0]) < 0 || z.against(l[1]) > 0 {
			t.Fatal("P8.6: Near", n, text(l))
		}
	}
	if n := real.Near(root2(whole(1), whole(2)), tiny(1000)); rat.Compare(rat.Sub(n[1], n[0]), tiny(1000)) > 0 {
		t.Error("P8.6: 1000 digits")
	}
}

// P8.6: zeros that are hard to come near to: flat ones, steep ones, and those beside an end that is a zero.
func TestNearHard(t *testing.T) {
	flat := poly.Sub(power(of(1, -1, 1), 15), poly.Scale(of(1, 1), tiny(60)))
	steep := poly.Sub(power(of(1, 0, 1), 15), poly.Scale(of(1, 1), raise(whole(10), 60)))
	beside := poly.Mul(of(1, 0, 1), poly.Sub(of(1, 0, 1), poly.Scale(of(1, 1), tiny(40))))
	for i, x := range []struct {
		p      api.Poly
		lo, hi int
		above  api.Rat
		below  api.Rat
	}{
		{flat, -5, 9, rat.Add(whole(1), tiny(5)), rat.Add(whole(1), rat.Mul(whole(2), tiny(3)))},
		{flat, 1, 1000000, rat.Add(whole(1), tiny(5)), rat.Add(whole(1), rat.Mul(whole(2), tiny(3)))},
		{steep, -1000000000, 1000000000, whole(9999), whole(10001)},
		{steep, 9999, 10000, whole(9999), whole(10000)},
		{beside, 0, 1, tiny(41), tiny(39)},
		{beside, 0, 1000000, tiny(41), tiny(39)},
	} {
		n := api.Real{P: x.p, Lo: whole(x.lo), Hi: whole(x.hi)}
		if !real.Valid(n) {
			t.Fatal("not valid", i)
		}
		for _, width := range []api.Rat{whole(1), tiny(10), tiny(80)} {
			l := near(t, n, width)
			if rat.Compare(l[1], x.above) < 0 || rat.Compare(l[0], x.below) > 0 {
				t.Fatal("P8.6: Near", i, text(l))
			}
		}
	}
}

// P8.7.
func TestPlain(t *testing.T) {
	r := source("Plain")
	test := func(m made) {
		t.Helper()
		was := copied(m.x)
		a, ok := real.Plain(m.x)
		if ok != (m.z.sign == 0) || ok && !rat.Same(a, m.z.a) || !ok && !rat.Same(a, api.Rat{}) {
			t.Fatal("P8.7: Plain", text(m.x, a, ok))
		}
		if !same(m.x, was) {
			t.Fatal("an argument was changed:", text(was, m.x))
		}
	}
	for _, m := range several(r, 250) {
		test(m)
	}
	// Rational zeros of all signs and denominators, beside one that is not rational and very close.
	for _, a := range []api.Rat{whole(0), whole(-7), rat.Of(1, 3), rat.Of(-22, 7), rat.Of(1000000007, 999999937), tiny(20), raise(rat.Of(-3, 2), 40)} {
		for _, n := range []int{1, 10} {
			k := join(at(a), square(a, rat.Mul(whole(2), tiny(2*n))))
			l, e := real.Zeros(k.p)
			if e != api.OK || len(l) != 3 {
				t.Fatal("P8.2: Zeros", text(k.p), e, len(l))
			}
			for i, z := range k.sorted() {
				test(made{l[i], z})
			}
		}
		// The denominator of each coefficient counts.
		for i := range 3 {
			k := join(at(a), square(rat.Of(i, 5), rat.Of(5, 7)), cube(rat.Of(1, 11), 1, rat.Of(2, 13)))
			l, _ := real.Zeros(k.p)
			for i, z := range k.sorted() {
				test(made{l[i], z})
			}
		}
	}
}

// P8.11.
func TestProduct(t *testing.T) {
	r := source("Product")
	for range 25 {
		p, q := some(r, 6, plain), some(r, 6, plain)
		if r.IntN(2) == 0 {
			p, q = mixed(r, 5).p, mixed(r, 5).p
		}
		common := some(r, 2, plain)
		p, q = poly.Mul(p, common), poly.Mul(q, common)
		if len(p) == 0 || len(q) == 0 {
			continue
		}
		both := poly.Mul(p, q)
		l, _ := real.Zeros(p)
		m, _ := real.Zeros(q)
		all, e := real.Zeros(both)
		if e != api.OK {
			t.Fatal("P8.2: Zeros", text(both), e)
		}
		want := slices.Concat(l, m)
		slices.SortFunc(want, real.Compare)
		want = slices.CompactFunc(want, func(x, y api.Real) bool { return real.Compare(x, y) == 0 })
		if !slices.EqualFunc(all, want, func(x, y api.Real) bool { return real.Compare(x, y) == 0 }) {
			t.Fatal("P8.11: the zeros of a product", text(p, q), len(all), len(want))
		}
		for _, x := range append(all, several(r, 3)[0].x) {
			if real.Sign(both, x) != real.Sign(p, x)*real.Sign(q, x) {
				t.Fatal("P8.11: the sign of a product", text(p, q, x))
			}
		}
	}
}

// The examples of the chapter.
func TestExamples(t *testing.T) {
	p := of(1, -2, 0, 1)
	l, e := real.Zeros(p)
	if e != api.OK || len(l) != 2 {
		t.Fatal("P8.2: Zeros", e, len(l))
	}
	x := l[1]
	if real.Against(x, rat.Of(7, 5)) != 1 || real.Against(x, rat.Of(3, 2)) != -1 {
		t.Error("P8.3: the root of 2")
	}
	if f, c := real.Floor(x), real.Ceil(x); integer.Text(f) != "1" || integer.Text(c) != "2" {
		t.Error("P8.5: the root of 2", text(f, c))
	}
	if a, ok := real.Plain(x); ok || rat.Sign(a) != 0 {
		t.Error("P8.7: the root of 2", text(a))
	}
	if real.Sign(p, x) != 0 || real.Sign(of(1, -1, 1), x) != 1 {
		t.Error("P8.4: the root of 2")
	}
	l, e = real.Zeros(of(1, 1, -2, 1))
	if e != api.OK || len(l) != 1 {
		t.Fatal("P8.2: Zeros", e, len(l))
	}
	if a, ok := real.Plain(l[0]); !ok || !rat.Same(a, whole(1)) || real.Compare(l[0], real.Of(whole(1))) != 0 {
		t.Error("P8.7: the number 1", text(a), ok)
	}
}
