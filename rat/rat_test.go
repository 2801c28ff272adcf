package rat_test

import (
	"bytes"
	"fmt"
	"math"
	"math/big"
	"math/rand/v2"
	"slices"
	"strings"
	"testing"

	"gantry/api"
	"gantry/integer"
	"gantry/rat"
)

// whole returns an integer.
func whole(n *big.Int) api.Int {
	x, e := integer.Parse(n.String())
	if e != api.OK {
		panic(e)
	}
	return x
}

// canonical returns a number as the chapter describes it, with other means than the program.
func canonical(n *big.Rat) api.Rat {
	a := api.Rat{P: whole(n.Num())}
	if !n.IsInt() {
		a.Q = whole(n.Denom())
	}
	return a
}

func equalInts(x, y api.Int) bool {
	return x.Neg == y.Neg && slices.Equal(x.D, y.D)
}

// equal reports whether two numbers have the same P and Q.
func equal(a, b api.Rat) bool {
	return equalInts(a.P, b.P) && equalInts(a.Q, b.Q)
}

// short returns the beginning of the text of a value.
func short(x any) string {
	s := fmt.Sprint(x)
	return s[:min(len(s), 300)]
}

// same tests a number that a function returned for some arguments.
func same(t *testing.T, name string, got api.Rat, want *big.Rat, of ...any) {
	t.Helper()
	if !equal(got, canonical(want)) {
		t.Fatalf("%s of %s: %s, not %s", name, short(of), short(got), short(want))
	}
}

// sameInt tests an integer that a function returned for some arguments.
func sameInt(t *testing.T, name string, got api.Int, want *big.Int, of ...any) {
	t.Helper()
	if !equalInts(got, whole(want)) {
		t.Fatalf("%s of %s: %s, not %s", name, short(of), short(got), short(want))
	}
}

// agree tests that two numbers that have to be equal are.
func agree(t *testing.T, name string, a, b api.Rat, of ...any) {
	t.Helper()
	if !equal(a, b) || !rat.Valid(a) {
		t.Fatalf("%s for %s: %s and %s", name, short(of), short(a), short(b))
	}
}

// of returns a number of the oracle.
func of(p, q int64) *big.Rat {
	return big.NewRat(p, q)
}

// source returns numbers without a pattern, the same ones in each run of a test.
func source(name string) *rand.Rand {
	var seed [32]byte
	copy(seed[:], name)
	return rand.New(rand.NewChaCha8(seed))
}

// bits returns a positive integer of at most so many bits.
func bits(r *rand.Rand, most int) *big.Int {
	n := new(big.Int)
	for range r.IntN(most+1)/64 + 1 {
		n.Lsh(n, 64).Add(n, new(big.Int).SetUint64(r.Uint64()))
	}
	n.Rsh(n, uint(max(0, n.BitLen()-1-r.IntN(most))))
	return n.SetBit(n, 0, n.Bit(0)|uint(r.IntN(2))).Add(n, big.NewInt(1))
}

// some returns a number; its integers often consist of small primes, so that they have divisors in common with those of others.
func some(r *rand.Rand, most int) *big.Rat {
	p, q := bits(r, most), bits(r, most)
	switch r.IntN(8) {
	case 0:
		p.SetInt64(int64(r.IntN(3)))
	case 1:
		q.SetInt64(int64(1 + r.IntN(12)))
	case 2:
		q.SetInt64(1)
	case 3, 4:
		p, q = smooth(r, most), smooth(r, most)
	}
	if r.IntN(2) == 0 {
		p.Neg(p)
	}
	return new(big.Rat).SetFrac(p, q)
}

// smooth returns an integer of at most about so many bits whose prime divisors are small.
func smooth(r *rand.Rand, most int) *big.Int {
	n := big.NewInt(1)
	for limit := r.IntN(most + 1); n.BitLen() < limit; {
		n.Mul(n, big.NewInt([]int64{2, 2, 3, 5, 7, 10, 1000000000}[r.IntN(7)]))
	}
	return n
}

// small returns the numbers with denominators up to 6 from -3 to 3.
func small() []*big.Rat {
	var l []*big.Rat
	for q := int64(1); q <= 6; q++ {
		for p := -3 * q; p <= 3*q; p++ {
			if a := of(p, q); a.Denom().Int64() == q {
				l = append(l, a)
			}
		}
	}
	return l
}

// edges returns numbers whose integers are about as long as a digit or an int.
func edges() []*big.Rat {
	var l []*big.Rat
	ints := []int64{1, 2, api.Base - 1, api.Base, api.Base + 1, math.MaxInt64, math.MaxInt64 - 1, math.MinInt64, api.Base * api.Base}
	for _, p := range append(ints, 0) {
		for _, q := range ints {
			l = append(l, of(p, q), of(-p, q))
		}
	}
	return l
}

// pairs calls f with pairs of small, of edges, and of other numbers.
func pairs(name string, times int, f func(a, b *big.Rat)) {
	for _, l := range [][]*big.Rat{small(), edges()} {
		for _, a := range l {
			for _, b := range l {
				f(a, b)
			}
		}
	}
	r := source(name)
	for range times {
		most := 1 + r.IntN(400)
		f(some(r, most), some(r, 1+r.IntN(most)))
	}
}

// singles calls f with small, edges, and other numbers.
func singles(name string, times int, f func(a *big.Rat)) {
	for _, a := range append(small(), edges()...) {
		f(a)
	}
	r := source(name)
	for range times {
		f(some(r, 1+r.IntN(600)))
	}
}

func TestExamples(t *testing.T) {
	a := rat.Of(6, -8)
	if !equal(a, api.Rat{P: api.Int{Neg: true, D: []int{3}}, Q: api.Int{D: []int{4}}}) || rat.Text(a) != "-3/4" {
		t.Error("P5.1: Of(6, -8):", a, rat.Text(a))
	}
	same(t, "P5.2: Add", rat.Add(rat.Of(1, 2), rat.Of(1, 3)), of(5, 6))
	sameInt(t, "P5.4: Floor", rat.Floor(a), big.NewInt(-1), a)
	sameInt(t, "P5.4: Ceil", rat.Ceil(a), big.NewInt(0), a)
	if b := rat.Encode(rat.Of(1, 2)); !bytes.Equal(b, []byte{129, 2, 129, 1, 129, 1, 129, 2, 129, 1, 129, 2}) {
		t.Error("P5.8: Encode of 1/2:", b)
	}
}

// P5.1.
func TestOf(t *testing.T) {
	l := []int{math.MinInt, math.MinInt + 1, math.MaxInt, math.MaxInt - 1, api.Base, -api.Base, api.Base - 1, api.Base + 1, 1 << 62, -1 << 62, 6 * api.Base}
	for n := -40; n <= 40; n++ {
		l = append(l, n)
	}
	for _, p := range l {
		for _, q := range l {
			want := new(big.Rat)
			if q != 0 {
				want.SetFrac(big.NewInt(int64(p)), big.NewInt(int64(q)))
			}
			same(t, "P5.1: Of", rat.Of(p, q), want, p, q)
			same(t, "P5.1: Make", rat.Make(integer.Of(p), integer.Of(q)), want, p, q)
		}
	}
}

// P5.1.
func TestMake(t *testing.T) {
	pairs("Make", 5000, func(a, b *big.Rat) {
		for _, n := range [][2]*big.Int{{a.Num(), b.Num()}, {a.Denom(), b.Num()}, {b.Num(), a.Denom()}} {
			want := new(big.Rat)
			if n[1].Sign() != 0 {
				want.SetFrac(n[0], n[1])
			}
			p, q := whole(n[0]), whole(n[1])
			same(t, "P5.1: Make", rat.Make(p, q), want, n[0], n[1])
			if !equalInts(p, whole(n[0])) || !equalInts(q, whole(n[1])) {
				t.Fatal("Make changed an argument:", n[0], n[1])
			}
		}
	})
}

// P5.1.
func TestValid(t *testing.T) {
	one, two, three := []int{1}, []int{2}, []int{3}
	for i, a := range []api.Rat{
		{},
		{P: api.Int{D: []int{}}, Q: api.Int{D: []int{}}},
		{P: api.Int{D: one}},
		{P: api.Int{D: one}, Q: api.Int{D: []int{}}},
		{P: api.Int{Neg: true, D: one}, Q: api.Int{D: two}},
		{P: api.Int{D: three}, Q: api.Int{D: two}},
		{P: api.Int{D: two}, Q: api.Int{D: []int{1, 1}}},
		{P: api.Int{D: []int{1, 1}}, Q: api.Int{D: []int{0, 1}}},
	} {
		if !rat.Valid(a) {
			t.Error("P5.1: not valid:", i, a)
		}
	}
	for i, a := range []api.Rat{
		// The denominator 1, one that is not positive, and 0.
		{P: api.Int{D: two}, Q: api.Int{D: one}},
		{Q: api.Int{D: one}},
		{Q: api.Int{D: two}},
		{Q: api.Int{D: []int{0, 1}}},
		{P: api.Int{D: three}, Q: api.Int{Neg: true, D: one}},
		{P: api.Int{D: three}, Q: api.Int{Neg: true, D: two}},
		{P: api.Int{D: three}, Q: api.Int{Neg: true, D: []int{1, 1}}},
		// Divisors in common.
		{P: api.Int{D: two}, Q: api.Int{D: two}},
		{P: api.Int{D: two}, Q: api.Int{D: []int{4}}},
		{P: api.Int{Neg: true, D: []int{9}}, Q: api.Int{D: []int{6}}},
		{P: api.Int{D: two}, Q: api.Int{D: []int{0, 1}}},
		{P: api.Int{Neg: true, D: []int{0, 1}}, Q: api.Int{D: []int{0, 3}}},
		// P and Q that are not valid integers.
		{P: api.Int{Neg: true}},
		{P: api.Int{Neg: true}, Q: api.Int{D: two}},
		{P: api.Int{D: []int{0}}},
		{P: api.Int{D: []int{1, 0}}},
		{P: api.Int{D: []int{-1}}},
		{P: api.Int{D: []int{api.Base}}},
		{P: api.Int{D: []int{1, 0}}, Q: api.Int{D: two}},
		{P: api.Int{D: []int{-1}}, Q: api.Int{D: two}},
		{P: api.Int{D: []int{api.Base + 1}}, Q: api.Int{D: two}},
		{P: api.Int{D: one}, Q: api.Int{Neg: true}},
		{P: api.Int{D: one}, Q: api.Int{D: []int{0}}},
		{P: api.Int{D: one}, Q: api.Int{D: []int{2, 0}}},
		{P: api.Int{D: one}, Q: api.Int{D: []int{-2}}},
		{P: api.Int{D: one}, Q: api.Int{D: []int{-1, 1}}},
		{P: api.Int{D: one}, Q: api.Int{D: []int{api.Base}}},
		{P: api.Int{D: one}, Q: api.Int{D: []int{math.MinInt, 1}}},
		{P: api.Int{D: []int{-1}}, Q: api.Int{D: []int{-2}}},
	} {
		if rat.Valid(a) {
			t.Error("P5.1: valid:", i, a)
		}
	}
	// All pairs of integers: those of numbers in lowest terms are valid.
	pairs("Valid", 5000, func(n, m *big.Rat) {
		p, q := n.Num(), m.Num()
		want := q.Sign() == 0
		if q.Cmp(big.NewInt(1)) > 0 {
			want = new(big.Rat).SetFrac(p, q).Denom().Cmp(q) == 0
		}
		if got := rat.Valid(api.Rat{P: whole(p), Q: whole(q)}); got != want {
			t.Fatal("P5.1: Valid", p, q, got)
		}
	})
	singles("Valid", 2000, func(n *big.Rat) {
		if !rat.Valid(canonical(n)) {
			t.Fatal("P5.1: not valid:", n)
		}
	})
}

// P5.1, P5.2, P5.3.
func TestSigns(t *testing.T) {
	singles("Signs", 3000, func(n *big.Rat) {
		a := canonical(n)
		sameInt(t, "P5.1: Den", rat.Den(a), n.Denom(), n)
		same(t, "P5.2: Neg", rat.Neg(a), new(big.Rat).Neg(n), n)
		if s := rat.Sign(a); s != n.Sign() {
			t.Fatal("P5.3: Sign", n, s)
		}
		if rat.Compare(a, a) != 0 || !rat.Same(a, canonical(n)) {
			t.Fatal("P5.3: Compare of a number and itself", n)
		}
		same(t, "P5.2: Div by 0", rat.Div(a, api.Rat{}), new(big.Rat), n)
		if !equal(a, canonical(n)) {
			t.Fatal("an argument was changed:", n)
		}
	})
}

// P5.2, P5.3, and those of P5.9 and P5.10 on two numbers.
func TestPairs(t *testing.T) {
	pairs("Pairs", 15000, func(m, n *big.Rat) {
		a, b := canonical(m), canonical(n)
		sum, product, difference := rat.Add(a, b), rat.Mul(a, b), rat.Sub(a, b)
		same(t, "P5.2: Add", sum, new(big.Rat).Add(m, n), m, n)
		same(t, "P5.2: Sub", difference, new(big.Rat).Sub(m, n), m, n)
		same(t, "P5.2: Mul", product, new(big.Rat).Mul(m, n), m, n)
		quotient := new(big.Rat)
		if n.Sign() != 0 {
			quotient.Quo(m, n)
			agree(t, "P5.9: Div undoes Mul", rat.Div(product, b), a, m, n)
		}
		same(t, "P5.2: Div", rat.Div(a, b), quotient, m, n)
		if c := rat.Compare(a, b); c != m.Cmp(n) || c != rat.Sign(difference) {
			t.Fatal("P5.3, P5.10: Compare", m, n, c)
		}
		if rat.Same(a, b) != (m.Cmp(n) == 0) {
			t.Fatal("P5.3: Same", m, n)
		}
		agree(t, "P5.9: Add commutes", rat.Add(b, a), sum, m, n)
		agree(t, "P5.9: Mul commutes", rat.Mul(b, a), product, m, n)
		agree(t, "P5.9: Sub undoes Add", rat.Sub(sum, b), a, m, n)
		if !equal(a, canonical(m)) || !equal(b, canonical(n)) {
			t.Fatal("an argument was changed:", m, n)
		}
	})
}

// P5.9, P5.10.
func TestField(t *testing.T) {
	r := source("Field")
	for range 5000 {
		most := 1 + r.IntN(200)
		m, n, o := some(r, most), some(r, most), some(r, most)
		a, b, c := canonical(m), canonical(n), canonical(o)
		agree(t, "P5.9: Add is associative", rat.Add(rat.Add(a, b), c), rat.Add(a, rat.Add(b, c)), m, n, o)
		agree(t, "P5.9: Mul is associative", rat.Mul(rat.Mul(a, b), c), rat.Mul(a, rat.Mul(b, c)), m, n, o)
		agree(t, "P5.9: Mul is distributive", rat.Mul(a, rat.Add(b, c)), rat.Add(rat.Mul(a, b), rat.Mul(a, c)), m, n, o)
		order := rat.Compare(a, b)
		if rat.Compare(rat.Add(a, c), rat.Add(b, c)) != order {
			t.Fatal("P5.10: a number is added to both:", m, n, o)
		}
		if o.Sign() > 0 && rat.Compare(rat.Mul(a, c), rat.Mul(b, c)) != order {
			t.Fatal("P5.10: both are multiplied by a positive number:", m, n, o)
		}
	}
}

// P5.3: numbers that differ by as little as possible.
func TestNear(t *testing.T) {
	r := source("Near")
	for range 3000 {
		m := some(r, 1+r.IntN(300))
		n := new(big.Rat).SetFrac(big.NewInt(1), bits(r, 300))
		n.Add(n, m)
		a, b := canonical(m), canonical(n)
		if rat.Compare(a, b) != -1 || rat.Compare(b, a) != 1 || rat.Same(a, b) || rat.Same(b, a) {
			t.Fatal("P5.3: Compare of near numbers", m, n)
		}
	}
	// Numbers of which just the sign, the numerator or the denominator differs.
	for _, c := range [][2]api.Rat{
		{rat.Of(-2, 3), rat.Of(2, 3)},
		{rat.Of(2, 5), rat.Of(2, 3)},
		{rat.Of(4, 3), rat.Of(5, 3)},
		{rat.Of(2, 3), rat.Of(2, 1)},
	} {
		if rat.Same(c[0], c[1]) || rat.Compare(c[0], c[1]) != -1 || rat.Compare(c[1], c[0]) != 1 {
			t.Error("P5.3: Same and Compare", c)
		}
	}
}

// P5.4.
func TestFloor(t *testing.T) {
	one := big.NewInt(1)
	singles("Floor", 5000, func(n *big.Rat) {
		a := canonical(n)
		// The rest of DivMod is not negative, so that the quotient is rounded down.
		floor, rest := new(big.Int).DivMod(n.Num(), n.Denom(), new(big.Int))
		sameInt(t, "P5.4: Floor", rat.Floor(a), floor, n)
		if rest.Sign() > 0 {
			floor.Add(floor, one)
		}
		sameInt(t, "P5.4: Ceil", rat.Ceil(a), floor, n)
		if !equal(a, canonical(n)) {
			t.Fatal("an argument was changed:", n)
		}
	})
}

// P5.4.
func TestWhole(t *testing.T) {
	test := func(n *big.Rat) {
		t.Helper()
		want, fits := 0, n.IsInt() && n.Num().IsInt64()
		if fits {
			want = int(n.Num().Int64())
		}
		if got, ok := rat.Whole(canonical(n)); got != want || ok != fits {
			t.Error("P5.4: Whole", n, got, ok)
		}
	}
	singles("Whole", 2000, test)
	for _, n := range []*big.Int{big.NewInt(math.MaxInt64), big.NewInt(math.MinInt64)} {
		for d := int64(-2); d <= 2; d++ {
			a := new(big.Int).Add(n, big.NewInt(d))
			test(new(big.Rat).SetInt(a))
			test(new(big.Rat).SetFrac(a, big.NewInt(2)))
			test(new(big.Rat).SetFrac(a, big.NewInt(3)))
		}
	}
}

// P5.5.
func TestDot(t *testing.T) {
	if !equal(rat.Dot(nil, nil), api.Rat{}) || !equal(rat.Dot(nil, []api.Rat{rat.Of(1, 2)}), api.Rat{}) || !equal(rat.Dot([]api.Rat{rat.Of(1, 2)}, []api.Rat{}), api.Rat{}) {
		t.Error("P5.5: Dot of an empty list")
	}
	r := source("Dot")
	for i := range 3000 {
		var a, b []api.Rat
		var m, n []*big.Rat
		for range i % 9 {
			m = append(m, some(r, 1+r.IntN(90)))
			a = append(a, canonical(m[len(m)-1]))
		}
		for range i / 9 % 9 {
			n = append(n, some(r, 1+r.IntN(90)))
			b = append(b, canonical(n[len(n)-1]))
		}
		want := new(big.Rat)
		for k := range min(len(m), len(n)) {
			want.Add(want, new(big.Rat).Mul(m[k], n[k]))
		}
		same(t, "P5.5: Dot", rat.Dot(a, b), want, m, n)
		for k := range a {
			agree(t, "Dot leaves its arguments", a[k], canonical(m[k]))
		}
		for k := range b {
			agree(t, "Dot leaves its arguments", b[k], canonical(n[k]))
		}
	}
	// Elements after the end of the shorter list do not change the result, also if there is room for more.
	l := []api.Rat{rat.Of(1, 2), rat.Of(3, 1), rat.Of(5, 7)}
	same(t, "P5.5: Dot", rat.Dot(l[:2], l), of(37, 4))
	same(t, "P5.5: Dot", rat.Dot(l, l[:1]), of(1, 4))
}

// P5.7, P5.12.
func TestText(t *testing.T) {
	singles("Text", 4000, func(n *big.Rat) {
		a := canonical(n)
		s := rat.Text(a)
		if s != n.RatString() {
			t.Fatal("P5.7: Text", n, short(s))
		}
		back, e := rat.Parse(s)
		if e != api.OK || !equal(back, a) {
			t.Fatal("P5.7, P5.12: Parse", short(s), e, short(back))
		}
		if b, e := rat.Parse(s + " "); e != api.ErrForm || !equal(b, api.Rat{}) {
			t.Fatal("P5.7: Parse with a space", n, e, short(b))
		}
	})
	for s, want := range map[string]*big.Rat{
		"0":                        of(0, 1),
		"-7":                       of(-7, 1),
		"1/2":                      of(1, 2),
		"-10/21":                   of(-10, 21),
		"1/1000000000000000000000": new(big.Rat).SetFrac(big.NewInt(1), new(big.Int).Exp(big.NewInt(10), big.NewInt(21), nil)),
	} {
		a, e := rat.Parse(s)
		if e != api.OK || rat.Text(a) != s {
			t.Error("P5.7: Parse", s, e, a)
		}
		same(t, "P5.7: Parse", a, want, s)
	}
}

// P5.7.
func TestParseForm(t *testing.T) {
	for _, s := range []string{
		"", "/", "-", "-/", "/2", "1/", "-1/", "/-2", "-/2", "//", "1//2", "1/2/", "/1/2", "1/2/3", "1/3/1", "0/",
		"2/4", "3/1", "1/-2", "1/1", "0/1", "0/2", "0/0", "1/0", "-1/0", "2/0", "-0", "-0/2", "1/-0", "1/-1", "-3/1", "-6/4", "3/3", "-1/-2",
		"01", "01/2", "1/02", "00", "1/00", "+1", "+1/2", "1/+2", " 1/2", "1/2 ", "1 /2", "1/ 2", "1/2\n", "1/2\x00",
		"1.5", "1,5", "1:2", "1\\2", "1e3", "1/2e3", "0x1", "1/0x2", "1_0", "1/1_0", "a", "a/b", "1/b", "½", "１/２", "--1", "1/--2", "- 1",
		"1000000000/2", "2/1000000000", "-999999999/3",
		strings.Repeat("7", 40) + "/" + strings.Repeat("7", 20),
	} {
		if a, e := rat.Parse(s); e != api.ErrForm || !equal(a, api.Rat{}) {
			t.Errorf("P5.7: Parse of %q: %v %v", s, e, a)
		}
	}
	// All short texts of these characters: just the canonical ones are texts.
	texts := []string{""}
	for len(texts[0]) < 6 {
		var longer []string
		for _, s := range texts {
			for _, c := range "-/0124" {
				longer = append(longer, s+string(c))
			}
		}
		texts = longer
		for _, s := range texts {
			testShort(t, s)
		}
	}
}

// testShort tests Parse of any text against that of the library.
func testShort(t *testing.T, s string) {
	t.Helper()
	want, ok := new(big.Rat).SetString(s)
	a, e := rat.Parse(s)
	if !ok || want.RatString() != s {
		if e != api.ErrForm || !equal(a, api.Rat{}) {
			t.Fatalf("P5.7: Parse of %q: %v %v", s, e, a)
		}
		return
	}
	if e != api.OK || !equal(a, canonical(want)) {
		t.Fatalf("P5.7: Parse of %q: %v %v", s, e, a)
	}
}

// P5.7: the greatest texts.
func TestParseLimit(t *testing.T) {
	for _, left := range []int{1, 2, 10, api.MaxBytes / 2, api.MaxBytes - 2} {
		// The numerator is a power of 10, and the denominator consists of nines.
		p := "1" + strings.Repeat("0", left-1)
		q := strings.Repeat("9", api.MaxBytes-left-1)
		a, e := rat.Parse(p + "/" + q)
		if e != api.OK || rat.Text(a) != p+"/"+q {
			t.Error("P5.7: Parse of 65536 bytes with a slash at", left, e)
		}
		if a, e := rat.Parse(p + "/9" + q); e != api.ErrLimit || !equal(a, api.Rat{}) {
			t.Error("P5.7: Parse of 65537 bytes with a slash at", left, e)
		}
		if a, e := rat.Parse("-" + p + "/" + q); e != api.ErrLimit || !equal(a, api.Rat{}) {
			t.Error("P5.7: Parse of 65537 bytes with a slash after", left, e)
		}
	}
	for _, c := range []struct {
		s    string
		want api.Errno
	}{
		{strings.Repeat("7", api.MaxBytes), api.OK},
		{strings.Repeat("7", api.MaxBytes+1), api.ErrLimit},
		{strings.Repeat("0", api.MaxBytes), api.ErrForm},
		{strings.Repeat("0", api.MaxBytes+1), api.ErrLimit},
		{strings.Repeat("/", api.MaxBytes), api.ErrForm},
		{strings.Repeat("/", api.MaxBytes+1), api.ErrLimit},
		{strings.Repeat("8", api.MaxBytes-2) + "/6", api.ErrForm},
		{strings.Repeat("8", api.MaxBytes-1) + "/6", api.ErrLimit},
		{"x/" + strings.Repeat("8", api.MaxBytes), api.ErrLimit},
	} {
		a, e := rat.Parse(c.s)
		if e != c.want || e != api.OK && !equal(a, api.Rat{}) {
			t.Error("P5.7: Parse", short(c.s), len(c.s), e)
		}
	}
}

// P5.8, P5.12.
func TestEncode(t *testing.T) {
	singles("Encode", 1500, func(n *big.Rat) {
		a := canonical(n)
		b := rat.Encode(a)
		if !bytes.Equal(b, append(integer.Encode(a.P), integer.Encode(a.Q)...)) {
			t.Fatal("P5.8: Encode", n, b)
		}
		for _, more := range [][]byte{nil, {0}, {129, 1, 129, 1}, {255, 255}, b} {
			data := append(bytes.Clone(b), more...)
			back, used, e := rat.Decode(data)
			if e != api.OK || used != len(b) || !equal(back, a) {
				t.Fatal("P5.8, P5.12: Decode", n, more, e, used)
			}
			// What was decoded does not change with the bytes.
			clear(data)
			agree(t, "P5.8: Decode keeps no bytes", back, a)
		}
		for i := range b {
			back, used, e := rat.Decode(b[:i])
			if want := firstError(b[:i]); e != want || used != 0 || !equal(back, api.Rat{}) {
				t.Fatal("P5.8: Decode of a prefix", n, i, e, want)
			}
		}
	})
}

// firstError returns the error of integer.Decode for the first or for the second integer of a byte sequence.
func firstError(b []byte) api.Errno {
	_, used, e := integer.Decode(b)
	if e == api.OK {
		_, _, e = integer.Decode(b[used:])
	}
	return e
}

// P5.8.
func TestDecodeErrors(t *testing.T) {
	ints := []api.Int{{}, {D: []int{1}}, {Neg: true, D: []int{1}}, {D: []int{2}}, {Neg: true, D: []int{2}}, {D: []int{3}}, {D: []int{4}}, {D: []int{0, 1}}, {D: []int{1, 1}}}
	// What no integer's encoding begins with: nothing, part of a list, an empty list, a list of a wrong sign, a digit that is too great, and zeros at the end.
	bad := [][]byte{nil, {129}, {128}, {129, 1, 129}, {129, 1, 129, 1}, {129, 2, 128, 129, 1}, {129, 2, 129, 1, 128}, {129, 3, 129, 1, 129, 1, 128}, {0}, {255}}
	bad = append(bad, []byte{129, 2, 129, 1, 132, 59, 154, 202, 0})
	for _, first := range bad {
		for _, second := range append(bad, integer.Encode(ints[0]), integer.Encode(ints[3])) {
			checkBad(t, append(bytes.Clone(first), second...))
		}
		for _, p := range ints {
			checkBad(t, append(integer.Encode(p), first...))
		}
	}
	for _, p := range ints {
		for _, q := range ints {
			b := append(integer.Encode(p), integer.Encode(q)...)
			a, used, e := rat.Decode(b)
			switch valid := rat.Valid(api.Rat{P: p, Q: q}); {
			case valid && (e != api.OK || used != len(b) || !equal(a, api.Rat{P: p, Q: q})):
				t.Error("P5.8: Decode of a valid number", p, q, e)
			case !valid && (e != api.ErrForm || used != 0 || !equal(a, api.Rat{})):
				t.Error("P5.8: Decode of a number that is not valid", p, q, e)
			}
		}
	}
}

// checkBad tests that Decode returns the first error of the integers, if there is one.
func checkBad(t *testing.T, b []byte) {
	t.Helper()
	want := firstError(b)
	if want == api.OK {
		return
	}
	if a, used, e := rat.Decode(b); e != want || used != 0 || !equal(a, api.Rat{}) {
		t.Error("P5.8: Decode", b, e, want, used, a)
	}
}

// P5.8: whatever is decoded has been read from its only encoding.
func TestDecodeAny(t *testing.T) {
	r := source("DecodeAny")
	parts := [][]byte{{129, 1, 128}, {129, 2, 129, 1}, {129, 2, 127}, {129, 3, 129, 1, 128}, {129, 1}, {129, 2}, {129, 3}, {128}, {0}, {130, 1, 0}}
	found := 0
	for range 200000 {
		var b []byte
		for range r.IntN(7) {
			b = append(b, parts[r.IntN(len(parts))]...)
		}
		kept := bytes.Clone(b)
		a, used, e := rat.Decode(b)
		if !bytes.Equal(b, kept) {
			t.Fatal("Decode changed its argument:", kept)
		}
		if e != api.OK {
			if want := firstError(b); used != 0 || !equal(a, api.Rat{}) || want != api.OK && e != want || want == api.OK && e != api.ErrForm {
				t.Fatal("P5.8: Decode", b, e, used, a)
			}
			continue
		}
		found++
		if !rat.Valid(a) || !bytes.Equal(rat.Encode(a), b[:used]) {
			t.Fatal("P5.8, P5.12: Decode", b, used, a)
		}
	}
	if found < 1000 {
		t.Error("just a few sequences were encodings:", found)
	}
}
