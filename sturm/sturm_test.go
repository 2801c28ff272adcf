package sturm_test

import (
	"slices"
	"testing"

	"gantry/api"
	"gantry/poly"
	"gantry/rat"
	"gantry/sturm"
)

// The examples of the chapter.
func TestExamples(t *testing.T) {
	p := of(1, 2, -3, 0, 1)
	l := sturm.Chain(p)
	for i, want := range []api.Poly{of(1, -2, 1, 1), of(1, 1, 2), of(4, 9)} {
		if len(l) != 3 || !equal(l[i], want) {
			t.Error("P7.1: Chain", i, l)
		}
	}
	for _, x := range [][3]int{{-3, 3, 2}, {-2, 1, 1}, {1, 5, 0}} {
		if n := sturm.Count(p, whole(x[0]), whole(x[1])); n != x[2] {
			t.Error("P7.2: Count", x, n)
		}
	}
	if b := sturm.Bound(p); !rat.Same(b, whole(4)) {
		t.Error("P7.3: Bound", rat.Text(b))
	}
	if !sturm.Stays(p, whole(-2), whole(9)) || sturm.Stays(p, whole(-3), whole(0)) {
		t.Error("P7.6: Stays")
	}
}

// chain returns the chain as the chapter describes it.
func chain(p api.Poly) []api.Poly {
	if len(p) == 0 {
		return nil
	}
	l := []api.Poly{poly.Free(p)}
	next := poly.Derive(l[0])
	for len(next) > 0 {
		l = append(l, next)
		_, rest := poly.Div(l[len(l)-2], next)
		next = poly.Scale(rest, whole(-1))
	}
	return l
}

// sameChain tests the chain of a polynomial.
func sameChain(t *testing.T, p api.Poly) {
	t.Helper()
	was := slices.Clone(p)
	got, want := sturm.Chain(p), chain(p)
	if !slices.EqualFunc(got, want, equal) {
		t.Fatal("P7.1: Chain", text(p), "is", got, "not", want)
	}
	for i, q := range got {
		if !poly.Valid(q) || len(q) == 0 {
			t.Fatal("P7.1: an element of Chain is not valid, or 0:", text(p, i, q))
		}
	}
	// The list is the caller's.
	clear(got)
	if !slices.EqualFunc(sturm.Chain(p), want, equal) {
		t.Fatal("Chain shares its list:", text(p))
	}
	kept(t, p, was)
}

// P7.1.
func TestChain(t *testing.T) {
	for _, p := range []api.Poly{nil, {}} {
		if l := sturm.Chain(p); len(l) != 0 {
			t.Error("P7.1: Chain of 0:", l)
		}
	}
	for _, p := range []api.Poly{of(1, 1), of(1, -5), of(7, 3), of(9, -1)} {
		if l := sturm.Chain(p); len(l) != 1 || !equal(l[0], of(1, 1)) {
			t.Error("P7.1: Chain of a number:", text(p), l)
		}
	}
	if l := sturm.Chain(of(3, 0, -2)); len(l) != 2 || !equal(l[0], of(1, 0, 1)) || !equal(l[1], of(1, 1)) {
		t.Error("P7.1: Chain of -2/3 x:", l)
	}
	// The degree falls by more than 1, and the sign of the remainder does not depend on that of the last coefficients.
	for i, x := range []struct {
		p, rest api.Poly
	}{
		{of(1, -2, 0, 0, 0, 1), of(1, 2)},
		{of(1, 2, 0, 0, 0, 1), of(1, -2)},
		{of(1, 0, -1, 0, 0, 1), of(4, 0, 3)},
		{of(1, 0, 5, 0, 0, -5), of(4, 0, 3)},
		{of(1, 1, 1, 0, 0, 0, 1), of(5, -5, -4)},
	} {
		if l := sturm.Chain(x.p); len(l) < 3 || !equal(l[2], x.rest) {
			t.Error("P7.1: the third element of Chain", i, l)
		}
	}
	for _, p := range small(4, -2, -1, 0, 1, 3) {
		sameChain(t, p)
	}
	r := source("Chain")
	for range 300 {
		sameChain(t, some(r, 9, plain))
		sameChain(t, some(r, 5, unusual))
		sameChain(t, mixed(r, 10).p)
		sameChain(t, poly.Mul(power(some(r, 2, plain), 2), some(r, 3, unusual)))
	}
	for range 5 {
		sameChain(t, some(r, 20, plain))
	}
}

// P7.1: all pairs of elements are looked at.
func TestChanges(t *testing.T) {
	pairs := func(l []int) int {
		n := 0
		for j := range l {
			for i := range j {
				only := !slices.ContainsFunc(l[i+1:j], func(s int) bool { return s != 0 })
				if only && l[i]*l[j] < 0 {
					n++
				}
			}
		}
		return n
	}
	r := source("Changes")
	lists := [][]int{nil}
	for i := 0; i < len(lists); i++ {
		signs := lists[i]
		if len(signs) < 6 {
			for s := -1; s <= 1; s++ {
				lists = append(lists, append(slices.Clone(signs), s))
			}
		}
		// A polynomial with each sign at x, with other ones elsewhere.
		x := plain(r)
		var l, was []api.Poly
		for _, s := range signs {
			p := poly.Mul(some(r, 2, plain), at(x).p)
			if s != 0 {
				p = poly.Add(p, of(1+r.IntN(9), s*(1+r.IntN(9))))
			}
			l, was = append(l, p), append(was, slices.Clone(p))
		}
		if n := sturm.Changes(l, x); n != pairs(signs) {
			t.Fatal("P7.1: Changes of the signs", signs, n)
		}
		if !slices.EqualFunc(l, was, equal) {
			t.Fatal("Changes changed its argument:", signs)
		}
	}
	if n := sturm.Changes(nil, whole(1)); n != 0 {
		t.Error("P7.1: Changes of nothing:", n)
	}
	if n := sturm.Changes([]api.Poly{of(1, -1), nil, {}, of(1, 1), nil, of(1, -1)}, whole(3)); n != 2 {
		t.Error("P7.1: Changes around 0:", n)
	}
}

// P7.2: known zeros, with ends of intervals that are zeros or close to them.
func TestCount(t *testing.T) {
	r := source("Count")
	for range 120 {
		k := mixed(r, 14)
		was := slices.Clone(k.p)
		l := k.spots()
		for range 25 {
			lo, hi := l[r.IntN(len(l))], l[r.IntN(len(l))]
			want := 0
			if rat.Compare(lo, hi) < 0 {
				want = k.count(lo, hi)
			}
			if n := sturm.Count(k.p, lo, hi); n != want {
				t.Fatal("P7.2: Count", text(k.p, lo, hi), n, want)
			}
		}
		kept(t, k.p, was)
	}
}

// P7.2.
func TestCountEdges(t *testing.T) {
	p := products(of(1, 0, 1), of(1, -1, 1), of(1, -1, 1))
	for i, x := range []struct {
		p      api.Poly
		lo, hi api.Rat
		want   int
	}{
		{nil, whole(-1), whole(1), 0},
		{api.Poly{}, whole(-1), whole(1), 0},
		{of(1, 5), whole(-1), whole(1), 0},
		{of(3, -1), whole(-100), whole(100), 0},
		{p, whole(0), whole(1), 1},
		{p, whole(-1), whole(0), 1},
		{p, whole(-1), whole(1), 2},
		{p, whole(0), rat.Of(99, 100), 0},
		{p, whole(1), whole(2), 0},
		{p, whole(1), whole(1), 0},
		{p, whole(0), whole(0), 0},
		{p, whole(1), whole(-1), 0},
		{p, whole(2), whole(-2), 0},
		{poly.Scale(p, rat.Of(-2, 7)), whole(-1), whole(1), 2},
		{of(1, 1, 0, 1), whole(-9), whole(9), 0},
		{of(1, 0, 0, 0, 0, -3), whole(-9), whole(9), 1},
		{of(1, -2, 0, 1), rat.Of(141421356, 100000000), rat.Of(141421357, 100000000), 1},
		{of(1, -2, 0, 1), rat.Of(141421357, 100000000), rat.Of(141421358, 100000000), 0},
	} {
		if n := sturm.Count(x.p, x.lo, x.hi); n != x.want {
			t.Error("P7.2: Count", i, text(x.p, x.lo, x.hi), n)
		}
	}
}

// P7.2: Descartes' rule of signs finds as many zeros.
func TestCountAny(t *testing.T) {
	test := func(p api.Poly, lo, hi api.Rat) {
		t.Helper()
		if rat.Compare(lo, hi) >= 0 {
			lo, hi = hi, rat.Add(lo, rat.Of(1, 3))
		}
		if n := sturm.Count(p, lo, hi); n != count(p, lo, hi) {
			t.Fatal("P7.2: Count", text(p, lo, hi), n, count(p, lo, hi))
		}
	}
	for _, p := range small(4, -3, -1, 0, 2) {
		for _, x := range [][2]int{{-9, 9}, {0, 9}, {-1, 0}, {-1, 1}, {0, 1}} {
			test(p, whole(x[0]), whole(x[1]))
		}
	}
	r := source("CountAny")
	for range 300 {
		test(some(r, 12, plain), plain(r), plain(r))
		test(some(r, 5, unusual), unusual(r), unusual(r))
		test(products(some(r, 3, plain), some(r, 3, plain), some(r, 2, plain)), plain(r), plain(r))
	}
}

// P7.1, P7.2: the limit of the degree is one of Isolate alone.
func TestLong(t *testing.T) {
	for _, n := range []int{17, 24} {
		k := constant(rat.Of(-1, 3))
		for i := range n {
			k = join(k, at(rat.Of(i*i, 2)))
		}
		if got := sturm.Count(k.p, whole(2), whole(50)); got != k.count(whole(2), whole(50)) {
			t.Error("P7.2: Count of many zeros:", n, got)
		}
		if l := sturm.Chain(k.p); len(l) != n+1 {
			t.Error("P7.1: the chain of many zeros:", n, len(l))
		}
		if sturm.Stays(k.p, whole(2), whole(50)) || !sturm.Stays(poly.Mul(k.p, k.p), whole(2), whole(50)) {
			t.Error("P7.6: Stays with many zeros:", n)
		}
	}
	// x^100 - 1 has two zeros.
	p := poly.Sub(power(of(1, 0, 1), 100), of(1, 1))
	if n := sturm.Count(p, whole(-1), whole(1)); n != 1 {
		t.Error("P7.2: Count of x^100 - 1:", n)
	}
	if n := sturm.Count(p, whole(-2), whole(1)); n != 2 {
		t.Error("P7.2: Count of x^100 - 1:", n)
	}
}

// P7.7.
func TestSturm(t *testing.T) {
	r := source("Sturm")
	for range 300 {
		p := some(r, 10, plain)
		if r.IntN(3) == 0 {
			p = mixed(r, 12).p
		}
		l := sturm.Chain(p)
		lo, hi := plain(r), plain(r)
		if rat.Compare(lo, hi) < 0 {
			if n := sturm.Count(p, lo, hi); n != sturm.Changes(l, lo)-sturm.Changes(l, hi) {
				t.Fatal("P7.7: Count and Changes", text(p, lo, hi), n)
			}
		}
		if len(p) == 0 {
			continue
		}
		b := sturm.Bound(p)
		far := rat.Mul(b, whole(1000))
		below := rat.Neg(b)
		inside := sturm.Count(p, below, b)
		if rat.Sign(poly.Eval(p, b)) == 0 || rat.Sign(poly.Eval(p, below)) == 0 || sturm.Count(p, rat.Neg(far), far) != inside {
			t.Fatal("P7.7: zeros outside of Bound", text(p, b))
		}
	}
	for range 60 {
		k := mixed(r, 16)
		b := sturm.Bound(k.p)
		for _, z := range k.zeros {
			if z.against(b) >= 0 || z.against(rat.Neg(b)) <= 0 {
				t.Fatal("P7.7: a zero outside of Bound", text(k.p, b, z.a))
			}
		}
	}
}

// P7.8.
func TestParts(t *testing.T) {
	r := source("Parts")
	for range 200 {
		k := mixed(r, 10)
		l := k.spots()
		first, sum := r.IntN(len(l)), 0
		for i := first; i+1 < len(l); i++ {
			sum += sturm.Count(k.p, l[i], l[i+1])
		}
		if n := sturm.Count(k.p, l[first], l[len(l)-1]); n != sum {
			t.Fatal("P7.8: the parts of an interval", text(k.p, l), n, sum)
		}
	}
	apart := 0
	for range 200 {
		p, q := some(r, 5, plain), some(r, 5, plain)
		if r.IntN(2) == 0 {
			p, q = mixed(r, 6).p, mixed(r, 6).p
		}
		if len(p) == 0 || len(q) == 0 {
			continue
		}
		lo, hi := whole(-r.IntN(6)), whole(r.IntN(6))
		n, sum := sturm.Count(poly.Mul(p, q), lo, hi), sturm.Count(p, lo, hi)+sturm.Count(q, lo, hi)
		disjoint := poly.Degree(poly.Gcd(p, q)) == 0
		if n > sum || disjoint && n < sum {
			t.Fatal("P7.8: Count of a product", text(p, q, lo, hi), n, sum)
		}
		if disjoint && n > 0 {
			apart++
		}
	}
	if apart < 50 {
		t.Error("just a few products of zeros:", apart)
	}
}

// P7.9.
func TestMoved(t *testing.T) {
	r := source("Moved")
	for range 200 {
		p, a := mixed(r, 10).p, plain(r)
		if r.IntN(2) == 0 {
			p = some(r, 8, plain)
		}
		factor := rat.Of(1+r.IntN(99), 1+r.IntN(99))
		lo, hi := whole(-r.IntN(6)), whole(r.IntN(6))
		n := sturm.Count(p, lo, hi)
		if m := sturm.Count(poly.Shift(p, a), rat.Sub(lo, a), rat.Sub(hi, a)); m != n {
			t.Fatal("P7.9: Count of Shift", text(p, a, lo, hi), n, m)
		}
		for _, k := range []api.Rat{whole(-1), factor, rat.Neg(factor)} {
			if m := sturm.Count(poly.Scale(p, k), lo, hi); m != n {
				t.Fatal("P7.9: Count with a factor", text(p, k, lo, hi), n, m)
			}
		}
	}
}
