package sturm_test

import (
	"slices"
	"testing"

	"gantry/api"
	"gantry/poly"
	"gantry/rat"
	"gantry/sturm"
)

// P7.3.
func TestBound(t *testing.T) {
	for i, x := range []struct {
		p    api.Poly
		want api.Rat
	}{
		{nil, whole(1)},
		{api.Poly{}, whole(1)},
		{of(1, 7), whole(1)},
		{of(3, -7), whole(1)},
		{of(1, 0, 0, 5), whole(1)},
		{of(1, 0, -2), whole(1)},
		{of(1, 1, 1), whole(2)},
		{of(1, -6, 4), rat.Of(5, 2)},
		{of(1, 6, -4), rat.Of(5, 2)},
		{of(5, 6, -4), rat.Of(5, 2)},
		{of(1, 1, -9, 3, 2), rat.Of(11, 2)},
		{of(1, -9, 1, 3, -2), rat.Of(11, 2)},
		{of(1, 1, 3, -9, -2), rat.Of(11, 2)},
		{of(1, 1, 1000), rat.Of(1001, 1000)},
	} {
		if b := sturm.Bound(x.p); !rat.Same(b, x.want) {
			t.Error("P7.3: Bound", i, text(x.p, b))
		}
	}
	r := source("Bound")
	for range 500 {
		p := some(r, 20, unusual)
		was := slices.Clone(p)
		b := sturm.Bound(p)
		// Of the quotients, none is above it less 1, and one is equal to that.
		most, found := rat.Sub(b, whole(1)), len(p) < 2
		for k := range len(p) - 1 {
			a := rat.Div(p[k], p[len(p)-1])
			if rat.Sign(a) < 0 {
				a = rat.Neg(a)
			}
			found = found || rat.Same(a, most)
			if rat.Compare(a, most) > 0 {
				t.Fatal("P7.3: Bound is too low:", text(p, b))
			}
		}
		if !found || len(p) < 2 && rat.Sign(most) != 0 {
			t.Fatal("P7.3: Bound is too high:", text(p, b))
		}
		kept(t, p, was)
	}
}

// isolated tests intervals for a number of zeros: all but that each of them has one.
func isolated(t *testing.T, p api.Poly, zeros int) [][2]api.Rat {
	t.Helper()
	was := slices.Clone(p)
	l, e := sturm.Isolate(p)
	if e != api.OK || len(l) != zeros {
		t.Fatal("P7.4: Isolate", text(p), e, len(l), "not", zeros)
	}
	for i, x := range l {
		if !rat.Valid(x[0]) || !rat.Valid(x[1]) || rat.Compare(x[0], x[1]) >= 0 {
			t.Fatal("P7.4: an interval is empty:", text(p, i, x))
		}
		if i > 0 && rat.Compare(l[i-1][1], x[0]) > 0 {
			t.Fatal("P7.4: intervals are not in order:", text(p, i, l[i-1], x))
		}
	}
	kept(t, p, was)
	return l
}

// P7.4: known zeros.
func TestIsolate(t *testing.T) {
	test := func(k known) {
		t.Helper()
		for i, x := range isolated(t, k.p, len(k.zeros)) {
			if k.count(x[0], x[1]) != 1 {
				t.Fatal("P7.4: zeros of an interval", text(k.p, i, x), k.count(x[0], x[1]))
			}
		}
	}
	for _, f := range factors() {
		test(f)
		test(often(f, 2))
		test(often(f, 5))
	}
	r := source("Isolate")
	for range 200 {
		test(mixed(r, 16))
	}
	// As many zeros as there can be; zeros that are very close, small or great; and some that occur often.
	tight, wide, close := constant(whole(-3)), constant(rat.Of(1, 7)), constant(whole(1))
	scale, near := whole(1), rat.Of(1, 1)
	for i := range 16 {
		tight = join(tight, at(whole(i-5)))
		scale = rat.Mul(scale, whole(-1000003))
		wide = join(wide, at(scale))
		near = rat.Div(near, whole(100))
		if i < 8 {
			close = join(close, at(rat.Add(rat.Of(1, 3), near)))
		}
	}
	test(tight)
	test(wide)
	test(close)
	test(join(often(at(whole(1)), 8), often(at(whole(-1)), 8)))
	test(join(often(at(whole(0)), 15), at(rat.Of(1, 1000000000))))
	test(often(square(whole(0), whole(-1)), 8))
	test(often(square(whole(5), whole(2)), 8))
	test(constant(rat.Of(-1, 9)))
	tiny := rat.Of(1, 1<<60)
	test(join(square(whole(0), rat.Mul(tiny, rat.Mul(tiny, whole(3)))), square(whole(1), whole(3)), cube(tiny, 1, whole(1<<60))))
}

// P7.4: Descartes' rule of signs finds the same zeros.
func TestIsolateAny(t *testing.T) {
	test := func(p api.Poly) {
		t.Helper()
		if len(p) == 0 {
			return
		}
		b := sturm.Bound(p)
		for i, x := range isolated(t, p, count(p, rat.Neg(b), b)) {
			if count(p, x[0], x[1]) != 1 {
				t.Fatal("P7.4: zeros of an interval", text(p, i, x))
			}
		}
	}
	for _, p := range small(4, -2, -1, 0, 1) {
		test(p)
	}
	r := source("IsolateAny")
	for range 200 {
		test(some(r, 16, plain))
		test(some(r, 6, unusual))
	}
	// Two zeros that differ by less than 10^-26.
	line := of(1, -1, 1000)
	close := poly.Sub(power(of(1, 0, 1), 16), products(of(1, 2), line, line))
	test(close)
}

// P7.4.
func TestIsolateErrors(t *testing.T) {
	x := of(1, 0, 1)
	for i, want := range []struct {
		p     api.Poly
		e     api.Errno
		zeros int
	}{
		{nil, api.ErrArg, 0},
		{api.Poly{}, api.ErrArg, 0},
		{power(x, 17), api.ErrLimit, 0},
		{power(of(1, -1, 2), 17), api.ErrLimit, 0},
		{poly.Add(power(x, 17), of(1, 1)), api.ErrLimit, 0},
		{poly.Scale(power(x, 40), whole(-1)), api.ErrLimit, 0},
		{power(x, 16), api.OK, 1},
		{poly.Sub(power(x, 16), of(1, 7)), api.OK, 2},
		{of(1, 1), api.OK, 0},
		{of(1, 1, 0, 1), api.OK, 0},
		// What is no polynomial has no specified result, but its zeros are not searched without end.
		{api.Poly{{P: api.Int{D: []int{-1 << 62, -5}}}, {}, whole(3), whole(1)}, api.ErrArg, 0},
	} {
		l, e := sturm.Isolate(want.p)
		if e != want.e || len(l) != want.zeros {
			t.Error("P7.4: Isolate", i, e, l)
		}
	}
	// The list is the caller's.
	p := poly.Sub(power(x, 2), of(1, 2))
	l, _ := sturm.Isolate(p)
	clear(l)
	isolated(t, p, 2)
}

// halved tests Halve on an isolating interval of a known polynomial.
func halved(t *testing.T, k known, l [2]api.Rat) [2]api.Rat {
	t.Helper()
	if k.count(l[0], l[1]) != 1 {
		t.Fatal("no isolating interval:", text(k.p, l))
	}
	was := slices.Clone(k.p)
	mid := half(l[0], l[1])
	want := [2]api.Rat{l[0], mid}
	if k.count(mid, l[1]) == 1 {
		want = [2]api.Rat{mid, l[1]}
	}
	got := sturm.Halve(k.p, l)
	if !rat.Same(got[0], want[0]) || !rat.Same(got[1], want[1]) {
		t.Fatal("P7.5: Halve", text(k.p, l, got, want))
	}
	kept(t, k.p, was)
	return got
}

// P7.5.
func TestHalve(t *testing.T) {
	r := source("Halve")
	for range 80 {
		k := mixed(r, 12)
		l, e := sturm.Isolate(k.p)
		if e != api.OK {
			t.Fatal("P7.4: Isolate", text(k.p), e)
		}
		for _, x := range l {
			for range 12 {
				x = halved(t, k, x)
			}
		}
		// Any other intervals, and those that begin or end with zeros.
		spots := k.spots()
		for i, lo := range spots {
			for _, hi := range spots[i+1:] {
				if k.count(lo, hi) == 1 {
					halved(t, k, [2]api.Rat{lo, hi})
				}
			}
		}
	}
	// A zero at the lower end, in the lower half, in the middle, in the upper half, at the upper end.
	for zeros := range 32 {
		for times := range 32 {
			k := constant(whole(-1))
			for i := range 5 {
				if zeros>>i&1 == 1 {
					k = join(k, often(at(rat.Of(i, 4)), 1+times>>i&1))
				}
			}
			if k.count(whole(0), whole(1)) == 1 {
				halved(t, k, [2]api.Rat{whole(0), whole(1)})
			}
		}
	}
}

// P7.5: an interval of any width can be reached.
func TestHalveOften(t *testing.T) {
	k := join(often(square(whole(0), whole(2)), 2), at(whole(1)))
	l := [2]api.Rat{whole(1), whole(2)}
	width := whole(1)
	for range 60 {
		l = halved(t, k, l)
		width = rat.Div(width, whole(2))
		if !rat.Same(rat.Sub(l[1], l[0]), width) {
			t.Fatal("P7.5: the width", text(l))
		}
	}
}

// staying tests Stays.
func staying(t *testing.T, p api.Poly, lo, hi api.Rat, want bool) {
	t.Helper()
	was := slices.Clone(p)
	if sturm.Stays(p, lo, hi) != want {
		t.Fatal("P7.6: Stays", text(p, lo, hi), "is not", want)
	}
	kept(t, p, was)
}

// P7.6: known zeros, at the ends and inside, an even or an odd number of times.
func TestStays(t *testing.T) {
	r := source("Stays")
	yes := 0
	for range 150 {
		k := mixed(r, 14)
		l := k.spots()
		for range 20 {
			lo, hi := l[r.IntN(len(l))], l[r.IntN(len(l))]
			want := k.stays(lo, hi)
			staying(t, k.p, lo, hi, want)
			if want && rat.Compare(lo, hi) < 0 {
				yes++
			}
		}
	}
	if yes < 100 {
		t.Error("just a few are not negative:", yes)
	}
	// All numbers of times for a zero at the lower end, inside, in the middle, at the upper end, and outside.
	for _, a := range []api.Rat{whole(-1), whole(0), rat.Of(1, 5), rat.Of(1, 2), whole(1), whole(2)} {
		for times := range 8 {
			for _, factor := range []int{3, -3} {
				for _, b := range []int{-1, 0, 1, 2} {
					k := join(constant(rat.Of(factor, 5)), often(at(a), times))
					if !rat.Same(a, whole(b)) {
						k = join(k, at(whole(b)))
					}
					staying(t, k.p, whole(0), whole(1), k.stays(whole(0), whole(1)))
				}
			}
		}
	}
}

// P7.6.
func TestStaysEdges(t *testing.T) {
	zero, one, two := whole(0), whole(1), whole(2)
	dip := of(1, 2, -3, 1) // negative between 1 and 2
	for i, x := range []struct {
		p      api.Poly
		lo, hi api.Rat
		want   bool
	}{
		{nil, zero, one, true},
		{api.Poly{}, one, one, true},
		{nil, one, zero, true},
		{of(1, 5), zero, one, true},
		{of(1, -5), zero, one, false},
		{of(9, 1), one, one, true},
		{of(9, -1), one, one, false},
		{of(9, -1), one, zero, true},
		{dip, zero, one, true},
		{dip, one, two, false},
		{dip, two, whole(9), true},
		{dip, zero, whole(9), false},
		{dip, one, one, true},
		{dip, two, two, true},
		{dip, rat.Of(3, 2), rat.Of(3, 2), false},
		{dip, two, one, true},
		{dip, rat.Of(5, 3), rat.Of(4, 3), true},
		{dip, rat.Of(4, 3), rat.Of(5, 3), false},
		{dip, rat.Of(4, 3), two, false},
		{dip, zero, rat.Of(1000001, 1000000), false},
		{dip, rat.Of(1999999, 1000000), whole(3), false},
		{poly.Scale(dip, whole(-1)), one, two, true},
		{poly.Scale(dip, whole(-1)), zero, one, false},
		{of(1, 0, 0, 1), whole(-1), one, true},
		{of(1, 0, 0, -1), whole(-1), one, false},
		{of(1, 0, 0, -1), zero, zero, true},
		{of(1, 0, 0, 0, 1), zero, one, true},
		{of(1, 0, 0, 0, 1), whole(-1), zero, false},
		{of(1, 0, 1), whole(-1), one, false},
		{of(1, 1, 0, 1), whole(-9), whole(9), true},
		{of(1, -1, 0, -1), whole(-9), whole(9), false},
	} {
		if sturm.Stays(x.p, x.lo, x.hi) != x.want {
			t.Error("P7.6: Stays", i, text(x.p, x.lo, x.hi), "is not", x.want)
		}
	}
}

// P7.6: values at many places do not contradict it, and where it is false, there is a negative one.
func TestStaysAny(t *testing.T) {
	r := source("StaysAny")
	var seen [2]int
	for range 400 {
		p := some(r, 7, plain)
		if r.IntN(2) == 0 {
			p = poly.Add(power(some(r, 3, plain), 2), some(r, 0, plain))
		}
		if len(p) == 0 {
			continue
		}
		lo := plain(r)
		hi := rat.Add(lo, rat.Of(1+r.IntN(20), 1+r.IntN(5)))
		// Between the zeros and the ends, one value tells all signs.
		b := sturm.Bound(p)
		all, e := sturm.Isolate(p)
		if e != api.OK {
			t.Fatal("P7.4: Isolate", text(p), e)
		}
		want := true
		look := func(x api.Rat) {
			if rat.Compare(lo, x) <= 0 && rat.Compare(x, hi) <= 0 && rat.Sign(poly.Eval(p, x)) < 0 {
				want = false
			}
		}
		for _, x := range []api.Rat{lo, hi, half(lo, hi), b, rat.Neg(b)} {
			look(x)
		}
		for _, l := range all {
			for range 40 {
				look(l[0])
				look(l[1])
				l = sturm.Halve(p, l)
			}
		}
		staying(t, p, lo, hi, want)
		seen[len(seen)-1]++
		if want {
			seen[0]++
		}
	}
	if seen[0] < 50 || seen[1]-seen[0] < 50 {
		t.Error("just a few of one kind:", seen)
	}
}

// P7.10.
func TestSquares(t *testing.T) {
	r := source("Squares")
	for range 200 {
		k := mixed(r, 8)
		l := k.spots()
		lo, hi := l[r.IntN(len(l))], l[r.IntN(len(l))]
		staying(t, poly.Mul(k.p, k.p), lo, hi, true)
		p := some(r, 5, unusual)
		staying(t, poly.Mul(p, p), lo, hi, true)
		// A polynomial and its negation.
		both := sturm.Stays(k.p, lo, hi) && sturm.Stays(poly.Scale(k.p, whole(-1)), lo, hi)
		order := rat.Compare(lo, hi)
		if both != (order > 0 || order == 0 && k.sign(lo) == 0) {
			t.Fatal("P7.10: both signs stay", text(k.p, lo, hi), both)
		}
	}
	for _, x := range factors() {
		for _, z := range x.zeros {
			alone := z.sign == 0
			both := sturm.Stays(x.p, z.a, z.a) && sturm.Stays(poly.Scale(x.p, whole(-1)), z.a, z.a)
			if both != alone {
				t.Error("P7.10: both signs at a zero", text(x.p, z.a), both)
			}
		}
	}
	if !sturm.Stays(nil, whole(0), whole(1)) || !sturm.Stays(poly.Scale(nil, whole(-1)), whole(0), whole(1)) {
		t.Error("P7.10: 0")
	}
}
