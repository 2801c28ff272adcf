package integer_test

import (
	"bytes"
	"cmp"
	"fmt"
	"math"
	"math/big"
	"math/rand/v2"
	"slices"
	"strings"
	"testing"

	"gantry/api"
	"gantry/integer"
	"gantry/wire"
)

// digits returns an integer as the chapter describes it, with other means than the program.
func digits(n *big.Int) api.Int {
	x := api.Int{Neg: n.Sign() < 0}
	base, rest, digit := big.NewInt(api.Base), new(big.Int).Abs(n), new(big.Int)
	for rest.Sign() > 0 {
		rest.QuoRem(rest, base, digit)
		x.D = append(x.D, int(digit.Int64()))
	}
	return x
}

// number returns the value of a valid integer.
func number(x api.Int) *big.Int {
	n, base := new(big.Int), big.NewInt(api.Base)
	for _, d := range slices.Backward(x.D) {
		n.Mul(n, base)
		n.Add(n, big.NewInt(int64(d)))
	}
	if x.Neg {
		n.Neg(n)
	}
	return n
}

func equal(x, y api.Int) bool {
	return x.Neg == y.Neg && slices.Equal(x.D, y.D)
}

// short returns the beginning of the text of a value.
func short(x any) string {
	s := fmt.Sprint(x)
	return s[:min(len(s), 300)]
}

// same tests an integer that a function returned for some arguments.
func same(t *testing.T, name string, got api.Int, want *big.Int, of ...any) {
	t.Helper()
	if !equal(got, digits(want)) {
		t.Fatalf("%s of %s: %s, not %s", name, short(of), short(got), short(want))
	}
}

// agree tests that two integers that have to be equal are.
func agree(t *testing.T, name string, a, b api.Int, of ...any) {
	t.Helper()
	if !equal(a, b) || !integer.Valid(a) {
		t.Fatalf("%s for %s: %s and %s", name, short(of), short(a), short(b))
	}
}

// power returns a power of Base.
func power(k int) *big.Int {
	return new(big.Int).Exp(big.NewInt(api.Base), big.NewInt(int64(k)), nil)
}

// bothSigns returns numbers and their negatives, each once, in increasing order.
func bothSigns(l []*big.Int) []*big.Int {
	for _, n := range l {
		l = append(l, new(big.Int).Neg(n))
	}
	slices.SortFunc(l, (*big.Int).Cmp)
	return slices.CompactFunc(l, func(a, b *big.Int) bool { return a.Cmp(b) == 0 })
}

// edges returns the numbers at which a digit, an int or a root gets longer, and their neighbours.
func edges() []*big.Int {
	var l []*big.Int
	near := func(n *big.Int, most int64) {
		for d := -most; d <= most; d++ {
			l = append(l, new(big.Int).Add(n, big.NewInt(d)))
		}
	}
	near(new(big.Int), 3)
	for k := 1; k <= 6; k++ {
		near(power(k), 2)
		near(new(big.Int).Div(power(k), big.NewInt(2)), 1)
		near(new(big.Int).Mul(power(k), big.NewInt(999999999)), 1)
	}
	for _, bits := range []uint{15, 16, 31, 32, 53, 62, 63, 64, 65, 127, 128} {
		near(new(big.Int).Lsh(big.NewInt(1), bits), 1)
	}
	return bothSigns(l)
}

// source returns numbers without a pattern, the same ones in each run of a test.
func source(name string) *rand.Rand {
	var seed [32]byte
	copy(seed[:], name)
	return rand.New(rand.NewChaCha8(seed))
}

// some returns a number of so many digits, which are often the least or the greatest ones.
func some(r *rand.Rand, digits int) *big.Int {
	x := api.Int{Neg: r.IntN(2) == 0}
	for range digits {
		d := r.IntN(api.Base)
		switch r.IntN(8) {
		case 0, 1:
			d = 0
		case 2:
			d = 1
		case 3:
			d = api.Base - 1 - r.IntN(2)
		case 4:
			d = api.Base/2 - r.IntN(2)
		}
		x.D = append(x.D, d)
	}
	return number(x)
}

// pairs calls f with pairs of numbers of all lengths up to most digits, and of the edges.
func pairs(name string, most, times int, f func(a, b *big.Int)) {
	l := edges()
	for _, a := range l {
		for _, b := range l {
			f(a, b)
		}
	}
	r := source(name)
	for range times {
		f(some(r, r.IntN(most+1)), some(r, r.IntN(most+1)))
	}
}

// singles calls f with numbers of all lengths up to most digits, and the edges.
func singles(name string, most, times int, f func(a *big.Int)) {
	for _, a := range edges() {
		f(a)
	}
	r := source(name)
	for i := range times {
		f(some(r, i%(most+1)))
	}
}

func TestExamples(t *testing.T) {
	for _, c := range []struct{ x, y, q, r int }{{-7, 2, -4, 1}, {7, -2, -3, 1}} {
		q, r := integer.Div(integer.Of(c.x), integer.Of(c.y))
		same(t, "P4.3: Div", q, big.NewInt(int64(c.q)), c)
		same(t, "P4.3: Div", r, big.NewInt(int64(c.r)), c)
	}
	x := integer.Of(4294967296)
	square := integer.Mul(x, x)
	if !equal(square, api.Int{D: []int{709551616, 446744073, 18}}) {
		t.Error("P4.2: the square of 4294967296:", square)
	}
	if n, ok := integer.Small(square); n != 0 || ok {
		t.Error("P4.1: Small of 18446744073709551616:", n, ok)
	}
	if root, ok := integer.Root(integer.Of(10)); !equal(root, integer.Of(3)) || ok {
		t.Error("P4.5: Root of 10:", root, ok)
	}
	for _, s := range []string{"-0", "01"} {
		if x, e := integer.Parse(s); e != api.ErrForm || !equal(x, api.Int{}) {
			t.Error("P4.6: Parse of", s, x, e)
		}
	}
	if b := integer.Encode(integer.Of(-5)); !bytes.Equal(b, []byte{129, 2, 127, 129, 5}) {
		t.Error("P4.7: Encode of -5:", b)
	}
}

// P4.1.
func TestOf(t *testing.T) {
	for n, want := range map[int]api.Int{
		0:             {},
		1:             {D: []int{1}},
		-1:            {Neg: true, D: []int{1}},
		999999999:     {D: []int{999999999}},
		1000000000:    {D: []int{0, 1}},
		-1000000000:   {Neg: true, D: []int{0, 1}},
		math.MaxInt64: {D: []int{854775807, 223372036, 9}},
		math.MinInt64: {Neg: true, D: []int{854775808, 223372036, 9}},
	} {
		if x := integer.Of(n); !equal(x, want) {
			t.Error("P4.1: Of", n, x)
		}
	}
	for n := -3000; n <= 3000; n++ {
		same(t, "P4.1: Of", integer.Of(n), big.NewInt(int64(n)), n)
	}
	r := source("Of")
	for range 20000 {
		n := int(r.Uint64()) >> r.IntN(64)
		same(t, "P4.1: Of", integer.Of(n), big.NewInt(int64(n)), n)
	}
}

// P4.1.
func TestValid(t *testing.T) {
	for i, x := range []api.Int{
		{},
		{D: []int{}},
		{D: []int{1}},
		{Neg: true, D: []int{1}},
		{D: []int{999999999}},
		{Neg: true, D: []int{0, 0, 999999999}},
		{D: []int{0, 1}},
		{D: []int{999999999, 0, 1}},
	} {
		if !integer.Valid(x) {
			t.Error("P4.1: Valid", i, x)
		}
	}
	for i, x := range []api.Int{
		{Neg: true},
		{Neg: true, D: []int{}},
		{D: []int{0}},
		{Neg: true, D: []int{0}},
		{D: []int{1, 0}},
		{D: []int{0, 0}},
		{D: []int{999999999, 1, 0}},
		{D: []int{-1}},
		{D: []int{-1, 1}},
		{D: []int{1, -1}},
		{Neg: true, D: []int{1, -1, 1}},
		{D: []int{1000000000}},
		{D: []int{1000000000, 1}},
		{D: []int{1, 1000000000}},
		{Neg: true, D: []int{1, 1000000000, 1}},
		{D: []int{math.MaxInt}},
		{D: []int{math.MinInt, 1}},
		{D: []int{1 << 32, 1}},
	} {
		if integer.Valid(x) {
			t.Error("P4.1: Valid", i, x)
		}
	}
	singles("Valid", 20, 1000, func(a *big.Int) {
		if !integer.Valid(digits(a)) {
			t.Error("P4.1: Valid", a)
		}
	})
}

// P4.1.
func TestSmall(t *testing.T) {
	small := func(a *big.Int) {
		t.Helper()
		want := 0
		if a.IsInt64() {
			want = int(a.Int64())
		}
		if n, ok := integer.Small(digits(a)); n != want || ok != a.IsInt64() {
			t.Error("P4.1: Small", a, n, ok)
		}
	}
	for n := -3000; n <= 3000; n++ {
		small(big.NewInt(int64(n)))
	}
	// Numbers that differ from ints by powers of 2 or of Base.
	for _, a := range edges() {
		for _, b := range edges() {
			small(new(big.Int).Add(a, b))
		}
	}
	r := source("Small")
	for range 20000 {
		small(some(r, 1+r.IntN(5)))
		n := new(big.Int).SetUint64(r.Uint64())
		small(n)
		small(n.Neg(n))
	}
}

// P4.2, and P4.8 on Compare and Sub.
func TestSums(t *testing.T) {
	pairs("Sums", 12, 60000, func(a, b *big.Int) {
		x, y := digits(a), digits(b)
		same(t, "P4.2: Add", integer.Add(x, y), new(big.Int).Add(a, b), a, b)
		difference := integer.Sub(x, y)
		same(t, "P4.2: Sub", difference, new(big.Int).Sub(a, b), a, b)
		same(t, "P4.2: Mul", integer.Mul(x, y), new(big.Int).Mul(a, b), a, b)
		if c := integer.Compare(x, y); c != a.Cmp(b) || c != integer.Sign(difference) {
			t.Fatal("P4.4: Compare", a, b, c)
		}
		agree(t, "P4.8: Sub undoes Add", integer.Add(difference, y), x, a, b)
		agree(t, "P4.8: Add commutes", integer.Add(x, y), integer.Add(y, x), a, b)
		agree(t, "P4.8: Mul commutes", integer.Mul(x, y), integer.Mul(y, x), a, b)
		if !equal(x, digits(a)) || !equal(y, digits(b)) {
			t.Fatal("an argument was changed:", a, b)
		}
	})
}

// P4.2, P4.4.
func TestSigns(t *testing.T) {
	singles("Signs", 12, 2000, func(a *big.Int) {
		x := digits(a)
		same(t, "P4.2: Neg", integer.Neg(x), new(big.Int).Neg(a), a)
		if s := integer.Sign(x); s != a.Sign() {
			t.Fatal("P4.4: Sign", a, s)
		}
		same(t, "P4.2: x - x", integer.Sub(x, x), new(big.Int), a)
		same(t, "P4.2: x + -x", integer.Add(x, integer.Neg(x)), new(big.Int), a)
		if integer.Compare(x, x) != 0 || !equal(x, digits(a)) {
			t.Fatal("P4.4: Compare of a number and itself", a)
		}
	})
	if x := integer.Neg(api.Int{}); x.Neg {
		t.Error("P4.2: Neg of 0", x)
	}
}

// P4.2, P4.3: numbers of hundreds of digits.
func TestLong(t *testing.T) {
	r := source("Long")
	for range 60 {
		a, b := some(r, r.IntN(400)), some(r, r.IntN(400))
		if a.Sign() < 0 {
			divisor(t, a, b)
		}
		x, y := digits(a), digits(b)
		same(t, "P4.2: Mul", integer.Mul(x, y), new(big.Int).Mul(a, b))
		same(t, "P4.2: Add", integer.Add(x, y), new(big.Int).Add(a, b))
		same(t, "P4.2: Sub", integer.Sub(x, y), new(big.Int).Sub(a, b))
		divided(t, a, b)
	}
}

// divided tests Div.
func divided(t *testing.T, a, b *big.Int) {
	t.Helper()
	x, y := digits(a), digits(b)
	q, r := integer.Div(x, y)
	wantQ, wantR := new(big.Int), new(big.Int)
	if b.Sign() != 0 {
		wantQ.DivMod(a, b, wantR)
	}
	same(t, "P4.3: the quotient", q, wantQ, a, b)
	same(t, "P4.3: the rest", r, wantR, a, b)
	if !equal(x, digits(a)) || !equal(y, digits(b)) {
		t.Fatal("an argument was changed:", a, b)
	}
}

// P4.3.
func TestDiv(t *testing.T) {
	pairs("Div", 12, 60000, func(a, b *big.Int) {
		divided(t, a, b)
	})
	// Quotients that are just reached, or just missed.
	pairs("Div, near", 8, 30000, func(a, b *big.Int) {
		product := new(big.Int).Mul(a, b)
		divided(t, product, b)
		divided(t, product.Add(product, big.NewInt(1)), b)
		divided(t, product.Sub(product, big.NewInt(2)), b)
	})
}

// P4.3.
func TestDivByZero(t *testing.T) {
	singles("DivByZero", 9, 100, func(a *big.Int) {
		divided(t, a, new(big.Int))
	})
}

// divisor tests Gcd, and P4.9.
func divisor(t *testing.T, a, b *big.Int) {
	t.Helper()
	x, y := digits(a), digits(b)
	g := integer.Gcd(x, y)
	same(t, "P4.3: Gcd", g, new(big.Int).GCD(nil, nil, new(big.Int).Abs(a), new(big.Int).Abs(b)), a, b)
	if !equal(x, digits(a)) || !equal(y, digits(b)) {
		t.Fatal("an argument was changed:", a, b)
	}
	if len(g.D) == 0 {
		return
	}
	p, r := integer.Div(x, g)
	q, s := integer.Div(y, g)
	agree(t, "P4.9: Gcd divides", integer.Add(r, s), api.Int{}, a, b)
	agree(t, "P4.9: Gcd of what is divided", integer.Gcd(p, q), integer.Of(1), a, b)
	if b.Sign() != 0 {
		_, rest := integer.Div(x, y)
		agree(t, "P4.9: Gcd of the rest", integer.Gcd(y, rest), g, a, b)
	}
}

// P4.3, P4.9.
func TestGcd(t *testing.T) {
	pairs("Gcd", 10, 5000, func(a, b *big.Int) {
		divisor(t, a, b)
	})
	r := source("Gcd, common")
	for range 5000 {
		c := some(r, r.IntN(8))
		divisor(t, c.Mul(c, some(r, r.IntN(6))), new(big.Int).Mul(c, some(r, r.IntN(6))))
	}
	for i := -40; i <= 40; i++ {
		for k := -40; k <= 40; k++ {
			divisor(t, big.NewInt(int64(i)), big.NewInt(int64(k)))
		}
	}
}

// P4.3, P4.9: numbers whose quotients are all small, or sometimes great.
func TestGcdQuotients(t *testing.T) {
	r := source("Quotients")
	for kind := range 12 {
		a, b := big.NewInt(1), new(big.Int)
		for range 300 {
			q := int64(1)
			switch {
			case kind > 8:
				q = int64(r.Uint64() >> (1 + r.IntN(63)))
			case kind > 3:
				q += int64(r.IntN(1 << kind))
			case kind > 0 && r.IntN(20) == 0:
				q = int64(api.Base - 1 + r.IntN(kind))
			}
			a, b = new(big.Int).Add(b, new(big.Int).Mul(a, big.NewInt(q))), a
			divisor(t, a, b)
		}
	}
}

// P4.3: the greatest numbers that have a text to be parsed.
func TestGreatest(t *testing.T) {
	r := source("Greatest")
	some := func(n int) *big.Int {
		var b strings.Builder
		for range n {
			b.WriteByte(byte('1' + r.IntN(9)))
		}
		a, _ := new(big.Int).SetString(b.String(), 10)
		return a
	}
	a, b := some(65536), some(40000)
	x, e := integer.Parse(a.String())
	y, f := integer.Parse(b.String())
	if e != api.OK || f != api.OK {
		t.Fatal("P4.6:", e, f)
	}
	divided(t, a, b)
	same(t, "P4.2: Mul", integer.Mul(y, y), new(big.Int).Mul(b, b))
	if integer.Text(x) != a.String() {
		t.Error("P4.6: Text")
	}
}

// P4.4, P4.8: the order of numbers of all lengths and signs.
func TestOrder(t *testing.T) {
	l := edges()
	for i, a := range l {
		for k, b := range l {
			if c := integer.Compare(digits(a), digits(b)); c != cmp.Compare(i, k) {
				t.Fatal("P4.4: Compare", a, b, c)
			}
		}
	}
}

// P4.5.
func TestRoot(t *testing.T) {
	root := func(a *big.Int) {
		t.Helper()
		x := digits(a)
		root, exact := integer.Root(x)
		want, square := new(big.Int), false
		if a.Sign() >= 0 {
			want.Sqrt(a)
			square = new(big.Int).Mul(want, want).Cmp(a) == 0
		}
		same(t, "P4.5: Root", root, want, a)
		if exact != square || !equal(x, digits(a)) {
			t.Fatal("P4.5: whether the Root is exact:", a, exact)
		}
	}
	for n := int64(-10); n < 5000; n++ {
		root(big.NewInt(n))
	}
	squares := func(a *big.Int) {
		root(a)
		square := new(big.Int).Mul(a, a)
		for _, d := range []int64{0, 1, -2} {
			root(square.Add(square, big.NewInt(d)))
		}
		// Between two squares.
		root(square.Add(square, new(big.Int).Abs(a)))
	}
	singles("Root", 24, 4000, squares)
	squares(power(400))
	squares(some(source("Root, long"), 700))
}

// P4.6.
func TestText(t *testing.T) {
	for text, x := range map[string]api.Int{
		"0":                     {},
		"7":                     {D: []int{7}},
		"-7":                    {Neg: true, D: []int{7}},
		"1000000000":            {D: []int{0, 1}},
		"-1000000007":           {Neg: true, D: []int{7, 1}},
		"10000000000000000000":  {D: []int{0, 0, 10}},
		"123000000045000000678": {D: []int{678, 45, 123}},
		"-9223372036854775808":  {Neg: true, D: []int{854775808, 223372036, 9}},
	} {
		if got := integer.Text(x); got != text {
			t.Error("P4.6: Text", x, got)
		}
	}
	singles("Text", 30, 5000, func(a *big.Int) {
		text := integer.Text(digits(a))
		if text != a.String() {
			t.Fatal("P4.6: Text", text, a)
		}
		x, e := integer.Parse(text)
		if e != api.OK {
			t.Fatal("P4.10: Parse", text, e)
		}
		same(t, "P4.10: Parse", x, a, text)
	})
	// The text has no limit.
	if text := integer.Text(digits(power(8000))); text != "1"+strings.Repeat("0", 72000) {
		t.Error("P4.6: Text of a power of Base:", short(text))
	}
}

// P4.6: what is no text of an integer.
func TestParseErrors(t *testing.T) {
	refused := func(s string, want api.Errno) {
		t.Helper()
		if x, e := integer.Parse(s); e != want || !equal(x, api.Int{}) {
			t.Errorf("P4.6: Parse of %d bytes, %q: %v, %d", len(s), s[:min(len(s), 40)], x, e)
		}
	}
	for _, s := range []string{
		"", "-", "--1", "-0", "00", "01", "-01", "000", "0000000000", "-0000000001", "+1", "+0", "+", "1+", "1-", "-1-", "0-", "1-1",
		" 1", "1 ", "- 1", "\n1", "1\n", "1 000", "1_000", "1,000", "1.0", ".5", "1e3", "0x10", "0b1", "1/2", "1/1",
		"a", "12a", "a12", "1234567890a", "a1234567890", "12345678a0123456789", "1\x00", "\x00", "\xff", "1\xb2", "\u0661", "\u00b2", "\uff11", "\u22121", "1/", ":", "1:", "/",
		"-123456789 123456789", "123456789-123456789", "123456789+12345678", "123456789 12345678", "1234567890000000-1",
	} {
		refused(s, api.ErrForm)
	}
	for c := range 256 {
		s := string([]byte{byte(c)})
		if c >= '0' && c <= '9' {
			continue
		}
		refused(s, api.ErrForm)
		refused("1"+s, api.ErrForm)
		refused("123456789"+s+"23456789", api.ErrForm)
		if c != '-' {
			refused(s+"1", api.ErrForm)
		}
	}
	const limit = 65536
	for _, s := range []string{strings.Repeat("9", limit+1), "-" + strings.Repeat("9", limit), strings.Repeat("0", limit+1),
		strings.Repeat("x", limit+1), strings.Repeat("9", 2*limit), strings.Repeat("\u00fc", limit/2) + "1"} {
		refused(s, api.ErrLimit)
	}
	for _, s := range []string{strings.Repeat("0", limit), strings.Repeat("9", limit-1) + "x", "x" + strings.Repeat("9", limit-1),
		"-0" + strings.Repeat("9", limit-2), strings.Repeat("-", limit)} {
		refused(s, api.ErrForm)
	}
	for _, s := range []string{strings.Repeat("9", limit), "-" + strings.Repeat("8", limit-1), "1" + strings.Repeat("0", limit-1), strings.Repeat("9", limit-1)} {
		x, e := integer.Parse(s)
		if e != api.OK || integer.Text(x) != s || !integer.Valid(x) {
			t.Errorf("P4.6: Parse of %d bytes, %q: %d", len(s), s[:40], e)
		}
	}
}

// refused tests that Decode returns an error, and nothing else.
func refused(t *testing.T, b []byte, want api.Errno) {
	t.Helper()
	if x, used, e := integer.Decode(b); e != want || used != 0 || !equal(x, api.Int{}) {
		t.Fatalf("P4.7: Decode of %v: %v, %d, %d, not the error %d", b, x, used, e, want)
	}
}

// P4.7, P4.10.
func TestEncode(t *testing.T) {
	for want, x := range map[string]api.Int{
		"\x81\x01\x80":                     {},
		"\x81\x02\x81\x01\x81\x05":         {D: []int{5}},
		"\x81\x02\x7f\x81\x05":             {Neg: true, D: []int{5}},
		"\x81\x03\x81\x01\x80\x82\x01\x00": {D: []int{0, 256}},
	} {
		if got := integer.Encode(x); string(got) != want {
			t.Error("P4.7: Encode", x, got)
		}
	}
	singles("Encode", 12, 1000, func(a *big.Int) {
		x := digits(a)
		b := integer.Encode(x)
		if !bytes.Equal(b, wire.Ints(append([]int{a.Sign()}, x.D...))) || !equal(x, digits(a)) {
			t.Fatal("P4.7: Encode", a, b)
		}
		for _, after := range [][]byte{nil, {0}, {128}, {255, 255}, b} {
			whole := slices.Concat(b, after)
			y, used, e := integer.Decode(whole)
			if !equal(x, y) || used != len(b) || e != api.OK || !bytes.Equal(whole, slices.Concat(b, after)) {
				t.Fatalf("P4.10: Decode of %v and after it %v: %v, %d, %d", b, after, y, used, e)
			}
		}
		for n := range b {
			refused(t, b[:n], api.ErrMore)
		}
	})
}

// P4.7: lists that are none of an integer, and bytes that are no list.
func TestDecodeErrors(t *testing.T) {
	for _, l := range [][]int{
		{}, {1}, {-1}, {2}, {-2}, {2, 1}, {-2, 1}, {256, 5}, {math.MaxInt, 1}, {math.MinInt, 1}, {5},
		{0, 0}, {0, 1}, {0, 999999999}, {0, 0, 1}, {1, 0}, {-1, 0}, {1, 0, 0}, {1, 1, 0}, {-1, 1, 0}, {-1, 5, 7, 0},
		{1, -1}, {-1, -1}, {1, -1, 1}, {1, 1, -1}, {1, 1000000000}, {-1, 1000000000}, {1, 1000000000, 1}, {-1, 1, 1000000000},
		{1, math.MaxInt}, {-1, math.MinInt}, {1, 1, math.MaxInt, 1}, {0, -1}, {1, 1, 1, 1, 0},
	} {
		b := wire.Ints(l)
		refused(t, b, api.ErrForm)
		refused(t, append(b, 129, 1), api.ErrForm)
		refused(t, b[:len(b)-1], api.ErrMore)
	}
	// The list is decoded before it is looked at.
	refused(t, []byte{129, 2, 129, 5}, api.ErrMore)
	refused(t, []byte{129, 2, 129, 5, 137}, api.ErrForm)
	refused(t, []byte{129, 3, 128, 129, 1, 130, 1}, api.ErrMore)
	refused(t, nil, api.ErrMore)
	refused(t, []byte{}, api.ErrMore)
	refused(t, []byte{137}, api.ErrForm)
	refused(t, []byte{127}, api.ErrForm)
	refused(t, []byte{128}, api.ErrForm)
	refused(t, append(wire.Int(math.MaxInt), make([]byte, 100)...), api.ErrMore)
}

// P4.7, P4.10: whatever is decoded, its bytes are its encoding; and the errors are those of the list.
func TestDecodeAll(t *testing.T) {
	all := []byte{0, 1, 2, 126, 127, 128, 129, 130, 254, 255}
	b := make([]byte, 6)
	for n := range 1000000 {
		for i := range b {
			b[i] = all[n%len(all)]
			n /= len(all)
		}
		b[0] = byte(129 - n%2)
		x, used, e := integer.Decode(b)
		if e == api.OK {
			if !integer.Valid(x) || used > len(b) || !bytes.Equal(integer.Encode(x), b[:used]) {
				t.Fatal("P4.7: Decode", b, x, used)
			}
			continue
		}
		want := api.ErrForm
		if _, _, e := wire.GetInts(b); e != api.OK {
			want = e
		}
		refused(t, b, want)
	}
}

// P4.8.
func TestRing(t *testing.T) {
	r := source("Ring")
	next := func() (api.Int, *big.Int) {
		a := some(r, r.IntN(7))
		if r.IntN(3) == 0 {
			l := edges()
			a = l[r.IntN(len(l))]
		}
		return digits(a), a
	}
	add, mul := integer.Add, integer.Mul
	for range 5000 {
		x, a := next()
		y, b := next()
		z, c := next()
		agree(t, "P4.8: Add associates", add(add(x, y), z), add(x, add(y, z)), a, b, c)
		agree(t, "P4.8: Mul associates", mul(mul(x, y), z), mul(x, mul(y, z)), a, b, c)
		agree(t, "P4.8: Mul distributes", mul(x, add(y, z)), add(mul(x, y), mul(x, z)), a, b, c)
		agree(t, "P4.8: Sub undoes Add", integer.Sub(add(x, y), y), x, a, b)
		if integer.Compare(x, y) != integer.Compare(add(x, z), add(y, z)) {
			t.Fatal("P4.8: Compare after Add", a, b, c)
		}
	}
}

// P4.10: equal integers have equal texts and encodings, however they came about.
func TestEqual(t *testing.T) {
	singles("Equal", 8, 500, func(a *big.Int) {
		x := digits(a)
		parsed, _ := integer.Parse(integer.Text(x))
		decoded, _, _ := integer.Decode(integer.Encode(x))
		up := integer.Sub(integer.Add(x, digits(power(9))), digits(power(9)))
		quotient, _ := integer.Div(integer.Mul(x, digits(power(3))), digits(power(3)))
		for _, y := range []api.Int{parsed, decoded, up, quotient, integer.Neg(integer.Neg(x))} {
			if integer.Text(y) != a.String() || !bytes.Equal(integer.Encode(y), integer.Encode(x)) || integer.Compare(x, y) != 0 {
				t.Fatal("P4.10: equal integers:", a, y)
			}
		}
	})
}

// P4.11.
func TestInts(t *testing.T) {
	goes := func(a, b int) {
		t.Helper()
		x, y := integer.Of(a), integer.Of(b)
		small := func(name string, got api.Int, want int) {
			t.Helper()
			if n, ok := integer.Small(got); n != want || !ok {
				t.Fatal("P4.11:", name, a, b, n, ok)
			}
		}
		small("Add", integer.Add(x, y), a+b)
		small("Sub", integer.Sub(x, y), a-b)
		small("Mul", integer.Mul(x, y), a*b)
		small("Neg", integer.Neg(x), -a)
		if c := integer.Compare(x, y); c != cmp.Compare(a, b) || integer.Sign(x) != cmp.Compare(a, 0) {
			t.Fatal("P4.11: Compare", a, b, c)
		}
		if integer.Text(x) != fmt.Sprint(a) {
			t.Fatal("P4.11: Text", a)
		}
		if a >= 0 && b > 0 {
			q, r := integer.Div(x, y)
			small("the quotient", q, a/b)
			small("the rest", r, a%b)
		}
	}
	for a := -60; a <= 60; a++ {
		for b := -60; b <= 60; b++ {
			goes(a, b)
		}
	}
	r := source("Ints")
	for range 20000 {
		goes(int(int32(r.Uint32()))>>r.IntN(32), int(int32(r.Uint32()))>>r.IntN(32))
	}
	goes(math.MaxInt, 0)
	goes(0, math.MaxInt)
	goes(math.MaxInt/2, 2)
	goes(3037000499, 3037000499)
	goes(-3037000499, 3037000499)
	goes(1<<62-1, 1)
}

// Encodings are new memory, and a decoded integer shares none with its bytes.
func TestMemory(t *testing.T) {
	x := digits(power(3))
	b, kept := integer.Encode(x), integer.Encode(x)
	y, _, _ := integer.Decode(b)
	clear(b)
	if !bytes.Equal(integer.Encode(x), kept) || !equal(x, digits(power(3))) || !equal(y, x) {
		t.Error("an encoding shares memory")
	}
}
