package real_test

import (
	"bytes"
	"slices"
	"testing"

	"gantry/api"
	"gantry/integer"
	"gantry/poly"
	"gantry/rat"
	"gantry/real"
	"gantry/sturm"
	"gantry/wire"
)

// P8.1.
func TestOf(t *testing.T) {
	r := source("Of")
	l := []api.Rat{{}, whole(1), whole(-1), rat.Of(-3, 4), rat.Of(1<<62, 3), tiny(50), rat.Div(whole(-7), tiny(50))}
	for range 100 {
		l = append(l, plain(r), unusual(r))
	}
	for _, a := range l {
		x := real.Of(a)
		want := api.Real{P: at(a).p, Lo: a, Hi: a}
		if !same(x, want) || !real.Valid(x) {
			t.Fatal("P8.1: Of", text(a, x))
		}
	}
}

// root2 is the square root of 2, or its negation.
func root2(lo, hi api.Rat) api.Real {
	return api.Real{P: of(1, -2, 0, 1), Lo: lo, Hi: hi}
}

// P8.1.
func TestValid(t *testing.T) {
	zero, one, two := whole(0), whole(1), whole(2)
	three := of(1, 0, -1, 0, 1) // x^3 - x
	monomial := func(n int) api.Poly { return power(of(1, 0, 1), n) }
	odd := poly.Add(monomial(17), of(1, -2))
	for i, v := range []struct {
		x    api.Real
		want bool
	}{
		{api.Real{}, false},
		{api.Real{P: api.Poly{}}, false},
		{api.Real{P: of(1, 0, 1)}, true},
		{api.Real{P: of(1, 0, 1), Lo: one, Hi: one}, false},
		{api.Real{P: of(1, -1, 1), Lo: one, Hi: one}, true},
		{api.Real{P: of(1, 1, 1), Lo: one, Hi: one}, false},
		{api.Real{P: of(1, 1, 1), Lo: whole(-1), Hi: whole(-1)}, true},
		{api.Real{P: of(1, 1, -1), Lo: one, Hi: one}, false},
		{api.Real{P: of(1, -2, 2), Lo: one, Hi: one}, false},
		{api.Real{P: of(1, -1, 0, 1), Lo: one, Hi: one}, false},
		{api.Real{P: of(1, 1, -2, 1), Lo: one, Hi: one}, false},
		{api.Real{P: of(1, 1)}, false},
		{api.Real{P: of(1, 1), Hi: one}, false},
		{api.Real{P: of(1, -1, 1), Lo: zero, Hi: two}, true},
		{api.Real{P: of(1, -1, 1), Lo: zero, Hi: one}, true},
		{api.Real{P: of(1, -1, 1), Lo: one, Hi: two}, false},
		{api.Real{P: of(1, -1, 1), Lo: two, Hi: zero}, false},
		{api.Real{P: of(1, -2, 2), Lo: zero, Hi: two}, false},
		{api.Real{P: of(1, 1, -1), Lo: zero, Hi: two}, false},
		{api.Real{P: of(1, 1, -2, 1), Lo: zero, Hi: two}, false},
		{root2(one, two), true},
		{root2(zero, two), true},
		{root2(whole(-2), two), false},
		{root2(whole(-2), zero), true},
		{root2(zero, one), false},
		{root2(two, one), false},
		{root2(two, two), false},
		{root2(rat.Of(141421356, 100000000), rat.Of(141421357, 100000000)), true},
		{root2(rat.Of(141421357, 100000000), rat.Of(141421358, 100000000)), false},
		{root2(rat.Neg(rat.Of(3, 2)), rat.Of(7, 5)), true},
		{root2(rat.Neg(rat.Of(3, 2)), rat.Of(3, 2)), false},
		{api.Real{P: of(1, -4, 0, 2), Lo: one, Hi: two}, false},
		{api.Real{P: of(1, 1, 0, 1), Lo: whole(-9), Hi: whole(9)}, false},
		{api.Real{P: three, Lo: zero, Hi: one}, true},
		{api.Real{P: three, Lo: whole(-1), Hi: zero}, true},
		{api.Real{P: three, Lo: whole(-1), Hi: one}, false},
		{api.Real{P: three, Lo: whole(-1), Hi: rat.Of(99, 100)}, true},
		{api.Real{P: three, Lo: whole(-1), Hi: whole(-1)}, false},
		{api.Real{P: three, Lo: whole(-2), Hi: whole(9)}, false},
		{api.Real{P: poly.Add(monomial(16), of(1, -2)), Lo: zero, Hi: two}, true},
		{api.Real{P: odd, Lo: zero, Hi: two}, false},
		{api.Real{P: monomial(16), Lo: whole(-1), Hi: two}, false},
	} {
		if real.Valid(v.x) != v.want {
			t.Error("P8.1: Valid", i, text(v.x), "is not", v.want)
		}
	}
}

// P8.1: parts that are no numbers.
func TestValidParts(t *testing.T) {
	for i, bad := range []api.Rat{
		{P: api.Int{Neg: true}},
		{P: api.Int{D: []int{0}}},
		{P: api.Int{D: []int{api.Base}}},
		{P: api.Int{D: []int{1, -1}}},
		{P: integer.Of(1), Q: integer.Of(1)},
		{P: integer.Of(2), Q: integer.Of(4)},
		{P: integer.Of(3), Q: integer.Of(-2)},
		{Q: integer.Of(3)},
		{P: integer.Of(2), Q: api.Int{D: []int{5, 0}}},
	} {
		for k, x := range []api.Real{
			{P: of(1, -2, 0, 1), Lo: bad, Hi: whole(9)},
			{P: of(1, -2, 0, 1), Lo: whole(0), Hi: bad},
			{P: api.Poly{bad, whole(1)}, Lo: whole(-9), Hi: whole(9)},
			{P: api.Poly{whole(-1), bad}, Lo: whole(-9), Hi: whole(9)},
			{P: api.Poly{bad, whole(1)}, Lo: rat.Neg(bad), Hi: rat.Neg(bad)},
			{P: of(1, -1, 1), Lo: bad, Hi: bad},
		} {
			if real.Valid(x) {
				t.Error("P8.1: Valid", i, k)
			}
			if _, _, e := real.Decode(real.Encode(x)); e != api.ErrForm {
				t.Error("P8.8: Decode", i, k, e)
			}
		}
		if l, e := real.Zeros(api.Poly{bad, whole(1)}); e != api.ErrArg || len(l) > 0 {
			t.Error("P8.2: Zeros", i, e)
		}
	}
	for _, p := range []api.Poly{{{}}, {whole(1), {}}, {whole(-2), {}, whole(1), {}}} {
		if real.Valid(api.Real{P: p, Lo: whole(0), Hi: whole(9)}) {
			t.Error("P8.1: Valid with a 0 at the end", numbers(p))
		}
		if l, e := real.Zeros(p); e != api.ErrArg || len(l) > 0 {
			t.Error("P8.2: Zeros with a 0 at the end", numbers(p), e)
		}
	}
}

// P8.1: all intervals.
func TestValidAny(t *testing.T) {
	r := source("ValidAny")
	for range 60 {
		k := mixed(r, 9)
		free := poly.Free(k.p)
		single := poly.Degree(free) == poly.Degree(k.p) && rat.Same(k.p[len(k.p)-1], whole(1))
		l := k.spots()
		for range 12 {
			lo, hi := l[r.IntN(len(l))], l[r.IntN(len(l))]
			if rat.Same(lo, hi) {
				continue
			}
			want := k.count(lo, hi) == 1
			if x := (api.Real{P: free, Lo: lo, Hi: hi}); real.Valid(x) != want {
				t.Fatal("P8.1: Valid", text(x), "is not", want)
			}
			if x := (api.Real{P: k.p, Lo: lo, Hi: hi}); real.Valid(x) != (want && single) {
				t.Fatal("P8.1: Valid", text(x), "is not", want && single)
			}
		}
	}
}

// P8.2, P8.9: the zeros of a known polynomial.
func TestZeros(t *testing.T) {
	test := func(k known) {
		t.Helper()
		was := slices.Clone(k.p)
		l, e := real.Zeros(k.p)
		if e != api.OK || len(l) != len(k.zeros) {
			t.Fatal("P8.2: Zeros", text(k.p), e, len(l), "not", len(k.zeros))
		}
		if !slices.EqualFunc(k.p, was, rat.Same) {
			t.Fatal("an argument was changed:", text(was, k.p))
		}
		for i, z := range k.sorted() {
			x := l[i]
			if !real.Valid(x) {
				t.Fatal("P8.2: a zero is not valid:", text(k.p, x))
			}
			if z.against(x.Lo) < 0 || z.against(x.Hi) > 0 || k.count(x.Lo, x.Hi) != 1 && !rat.Same(x.Lo, x.Hi) {
				t.Fatal("P8.2: the value of a zero", text(k.p, x, z))
			}
			if real.Sign(k.p, x) != 0 {
				t.Fatal("P8.9: the sign of a polynomial at its zero", text(k.p, x))
			}
			if i > 0 && real.Compare(l[i-1], x) != -1 {
				t.Fatal("P8.9: zeros do not increase:", text(k.p, l[i-1], x))
			}
		}
	}
	for _, f := range factors() {
		test(f)
		test(often(f, 2))
		test(often(f, 5))
	}
	r := source("Zeros")
	for range 80 {
		test(mixed(r, 16))
	}
	tight, wide := constant(whole(-3)), constant(rat.Of(1, 7))
	for i := range 16 {
		tight = join(tight, at(whole(i-5)))
		wide = join(wide, at(raise(whole(-1003), i)))
	}
	test(tight)
	test(wide)
	test(constant(rat.Of(-1, 9)))
	test(join(often(at(whole(1)), 8), often(at(whole(-1)), 8)))
	test(join(square(whole(0), rat.Mul(tiny(40), whole(3))), cube(tiny(20), 1, rat.Div(whole(2), tiny(20))), at(whole(0))))
}

// P8.9: any polynomials.
func TestZerosAny(t *testing.T) {
	test := func(p api.Poly) {
		t.Helper()
		l, e := real.Zeros(p)
		if len(p) == 0 {
			if e != api.ErrArg || len(l) > 0 {
				t.Fatal("P8.2: Zeros of 0", e, l)
			}
			return
		}
		b := sturm.Bound(p)
		if e != api.OK || len(l) != sturm.Count(p, rat.Neg(b), b) {
			t.Fatal("P8.9: the number of zeros", text(p), e, len(l))
		}
		// The numbers between the zeros.
		gaps := []api.Rat{rat.Neg(b)}
		for i, x := range l {
			if !real.Valid(x) || real.Sign(p, x) != 0 {
				t.Fatal("P8.9: a zero", text(p, x))
			}
			for i > 0 {
				a := half(near(t, l[i-1], rat.Sub(b, gaps[0]))[1], near(t, x, rat.Sub(b, gaps[0]))[0])
				if real.Against(l[i-1], a) < 0 && real.Against(x, a) > 0 {
					gaps = append(gaps, a)
					break
				}
				l[i-1], x = closer(t, l[i-1]), closer(t, x)
			}
		}
		gaps = append(gaps, b)
		for i, x := range l {
			if real.Against(x, gaps[i]) != 1 || real.Against(x, gaps[i+1]) != -1 {
				t.Fatal("P8.9: zeros do not increase:", text(p, i, x))
			}
			if sturm.Count(p, gaps[i], gaps[i+1]) != 1 {
				t.Fatal("P8.9: zeros between two numbers", text(p, i, x))
			}
		}
	}
	for _, p := range small(3, -2, -1, 0, 1) {
		test(p)
	}
	r := source("ZerosAny")
	for range 50 {
		test(some(r, 12, plain))
		test(some(r, 6, unusual))
	}
}

// closer returns a number with the same value, and an interval that is narrower.
func closer(t *testing.T, x api.Real) api.Real {
	t.Helper()
	l := near(t, x, rat.Div(rat.Sub(x.Hi, x.Lo), whole(2)))
	if rat.Same(l[0], l[1]) {
		return real.Of(l[0])
	}
	return api.Real{P: x.P, Lo: l[0], Hi: l[1]}
}

// P8.2.
func TestZerosErrors(t *testing.T) {
	x := of(1, 0, 1)
	bad := append(power(x, 17)[:17:17], api.Rat{P: api.Int{Neg: true}})
	for i, want := range []struct {
		p     api.Poly
		e     api.Errno
		zeros int
	}{
		{nil, api.ErrArg, 0},
		{api.Poly{}, api.ErrArg, 0},
		{bad, api.ErrArg, 0},
		{append(slices.Clone(power(x, 20)), api.Rat{}), api.ErrArg, 0},
		{power(x, 17), api.ErrLimit, 0},
		{power(of(1, -1, 2), 17), api.ErrLimit, 0},
		{poly.Add(power(x, 17), of(1, 1)), api.ErrLimit, 0},
		{poly.Scale(power(x, 40), whole(-1)), api.ErrLimit, 0},
		{power(x, 16), api.OK, 1},
		{poly.Sub(power(x, 16), of(1, 7)), api.OK, 2},
		{of(1, 1), api.OK, 0},
		{of(1, 1, 0, 1), api.OK, 0},
	} {
		l, e := real.Zeros(want.p)
		if e != want.e || len(l) != want.zeros {
			t.Error("P8.2: Zeros", i, e, l)
		}
	}
	// The list is the caller's.
	p := of(1, -2, 0, 1)
	l, _ := real.Zeros(p)
	clear(l)
	if l, e := real.Zeros(p); e != api.OK || len(l) != 2 || !real.Valid(l[0]) {
		t.Error("P8.2: a list is not new:", l, e)
	}
}

// encoded returns the encoding of its parts.
func encoded(p api.Poly, ends ...api.Rat) []byte {
	b := poly.Encode(p)
	for _, a := range ends {
		b = append(b, rat.Encode(a)...)
	}
	return b
}

// P8.8, P8.12.
func TestBytes(t *testing.T) {
	r := source("Bytes")
	l := []made{{root2(whole(1), whole(2)), zero{}}, {real.Of(whole(0)), zero{}}, {real.Of(tiny(40)), zero{}}}
	for i, m := range append(l, several(r, 60)...) {
		x := m.x
		was := copied(x)
		b := real.Encode(x)
		if !bytes.Equal(b, encoded(x.P, x.Lo, x.Hi)) {
			t.Fatal("P8.8: Encode", text(x), b)
		}
		for _, after := range [][]byte{nil, {0}, {255, 255}, b} {
			all := slices.Concat(b, after)
			kept := bytes.Clone(all)
			y, n, e := real.Decode(all)
			if e != api.OK || n != len(b) || !same(x, y) {
				t.Fatal("P8.12: Decode", text(x), after, e, n, text(y))
			}
			if !bytes.Equal(all, kept) {
				t.Fatal("P8.8: Decode changed its argument", text(x))
			}
			clear(all)
			if !same(x, y) {
				t.Fatal("P8.8: Decode keeps its argument", text(x))
			}
		}
		for n := range b {
			if i > 20 {
				n = r.IntN(len(b))
			}
			if y, used, e := real.Decode(b[:n]); e != api.ErrForm || used != 0 || !same(y, api.Real{}) {
				t.Fatal("P8.12: Decode of a beginning", text(x), n, e, used)
			}
			if i > 20 {
				break
			}
		}
		if !same(x, was) {
			t.Fatal("an argument was changed:", text(was, x))
		}
	}
}

// P8.8: whatever is no encoding of a valid number is ErrForm.
func TestDecodeErrors(t *testing.T) {
	one, two := whole(1), whole(2)
	p := of(1, -2, 0, 1)
	good := encoded(p, one, two)
	for i, b := range [][]byte{
		nil,
		{},
		wire.Int(0),
		wire.Int(-1),
		wire.Int(1 << 40),
		{255},
		encoded(p),
		encoded(p, one),
		encoded(nil, one, two),
		encoded(of(1, 5), one, two),
		encoded(p, two, one),
		encoded(p, one, one),
		encoded(p, two, two),
		encoded(p, whole(-2), two),
		encoded(poly.Scale(p, two), one, two),
		encoded(poly.Mul(p, p), one, two),
		encoded(poly.Add(power(of(1, 0, 1), 17), of(1, -2)), one, two),
		encoded(append(slices.Clone(p), api.Rat{}), one, two),
		encoded(p, one, api.Rat{P: integer.Of(4), Q: integer.Of(2)}),
		encoded(p, api.Rat{P: integer.Of(1), Q: integer.Of(1)}, two),
		encoded(of(1, -1, 1), one, two),
		encoded(of(1, -1, 1), two, two),
		append([]byte{0}, good...),
		good[1:],
	} {
		x, n, e := real.Decode(b)
		if e != api.ErrForm || n != 0 || !same(x, api.Real{}) {
			t.Error("P8.8: Decode", i, e, n, text(x))
		}
	}
	for i, b := range [][]byte{good, encoded(of(1, -1, 1), one, one), encoded(of(1, -1, 1), whole(0), one), encoded(poly.Add(power(of(1, 0, 1), 16), of(1, -2)), one, two)} {
		if _, n, e := real.Decode(b); e != api.OK || n != len(b) {
			t.Error("P8.8: Decode", i, e, n)
		}
	}
	// A changed byte never leads to a number that has another encoding, or is not valid.
	r := source("DecodeErrors")
	for range 3000 {
		b := bytes.Clone(good)
		b[r.IntN(len(b))] = byte(r.IntN(256))
		x, n, e := real.Decode(b)
		if e == api.OK && (!real.Valid(x) || !bytes.Equal(real.Encode(x), b[:n])) || e != api.OK && e != api.ErrForm {
			t.Fatal("P8.8: Decode", b, e, text(x))
		}
	}
}

// What is not valid has no specified result, but each call returns.
func TestNotValid(t *testing.T) {
	zero, one, two := whole(0), whole(1), whole(2)
	bad := []api.Rat{{P: api.Int{D: []int{-1 << 62, -5}}}, {P: integer.Of(3), Q: api.Int{Neg: true, D: []int{7, 0}}}, {Q: api.Int{D: []int{api.Base * 3}}}}
	polys := []api.Poly{nil, of(1, 1), of(1, 0, 1), of(1, -1, 1), of(1, 1, 0, 1), of(1, -2, 0, 1), of(3, 2, 0, -1), of(1, 2, -3, 1), of(1, 0, 2, -3, 1), of(1, 0, 0, 1), of(1, -1, 3, -3, 1),
		power(of(1, -1, 2), 20), append(of(1, -2, 0, 1), zero), {bad[0], one}, {one, bad[1]}, {bad[2], bad[2], bad[2]}}
	ends := append([]api.Rat{zero, one, two, whole(-1), rat.Of(1, 3), rat.Of(9, 4), tiny(30)}, bad...)
	var l []api.Real
	for _, p := range polys {
		for _, lo := range ends {
			for _, hi := range ends {
				l = append(l, api.Real{P: p, Lo: lo, Hi: hi})
			}
		}
	}
	r := source("NotValid")
	for i, x := range l {
		real.Floor(x)
		real.Ceil(x)
		real.Plain(x)
		real.Valid(x)
		real.Encode(x)
		real.Near(x, ends[i%len(ends)])
		for _, a := range ends {
			real.Against(x, a)
		}
		for _, q := range polys[:11] {
			real.Sign(q, x)
		}
		real.Sign(polys[11+i%5], x)
		for range 8 {
			y := l[r.IntN(len(l))]
			real.Compare(x, y)
			real.Compare(y, x)
		}
	}
	for _, a := range bad {
		real.Of(a)
	}
}
