package convex_test

import (
	"math"
	"math/big"
	"slices"
	"testing"

	"gantry/api"
	"gantry/convex"
)

// square and triangle are the shapes of the chapter's examples.
func square() shape   { return of(0, 0, 2, 0, 2, 2, 0, 2) }
func triangle() shape { return of(0, 0, 4, 0, 0, 3) }

// kept tests that a function did not change its argument.
func kept(t *testing.T, s, was shape) {
	t.Helper()
	if !slices.Equal(s, was) {
		t.Fatal("a function changes its argument", was, "to", s)
	}
}

// wild returns numbers of which many products and sums wrap around.
func wild() []int {
	return []int{0, 1, -1, 3, 5, furthest, -furthest - 1, longest, longest + 1, 1 << 31, 1 << 32, -1 << 32, 3 << 32, 1<<32 + 1, 1 << 62, math.MaxInt, -math.MaxInt, math.MinInt}
}

// checks tests Normal.
func checks(t *testing.T, x, y, h int) bool {
	t.Helper()
	d := api.Dir{X: x, Y: y, H: h}
	got := convex.Normal(d)
	if got != normal(d) {
		t.Error("P12.1: Normal of", d, "is", got)
	}
	return got
}

// P12.1: all small directions.
func TestNormalSmall(t *testing.T) {
	count := 0
	for x := -30; x <= 30; x++ {
		for y := -30; y <= 30; y++ {
			for h := -30; h <= 30; h++ {
				if checks(t, x, y, h) {
					count++
				}
			}
		}
	}
	// 4 along the axes, and 8 for each of (3, 4) / 5, (5, 12) / 13, (8, 15) / 17, (7, 24) / 25 and (20, 21) / 29.
	if count != 44 {
		t.Error("P12.1: normal directions:", count)
	}
}

// P12.1: directions with great numbers, multiples of them, and those that differ from them by 1.
func TestNormal(t *testing.T) {
	var below, above int
	for _, v := range slices.Concat(legs(1, 700), legs(longest-200, longest+200), legs(4*longest-40, 4*longest+40)) {
		h, _ := length(v)
		for _, d := range []api.Point{v, at(-v.X, v.Y), at(v.X, -v.Y), at(-v.X, -v.Y)} {
			if got := checks(t, d.X, d.Y, h); got != (h <= longest) {
				t.Error("P12.1: Normal of", d, h, "is", got)
			}
			if h <= longest {
				below = max(below, h)
			} else {
				above++
			}
			for _, by := range []int{-1, 0, 2, 3, 7} {
				if checks(t, d.X*by, d.Y*by, h*by) {
					t.Error("P12.1: Normal of", by, "times", d, h)
				}
			}
			for _, by := range []int{-1, 1} {
				if checks(t, d.X+by, d.Y, h) || checks(t, d.X, d.Y+by, h) || checks(t, d.X, d.Y, h+by) {
					t.Error("P12.1: Normal beside", d, h)
				}
			}
		}
	}
	if below != 4194301 || above == 0 {
		t.Error("the greatest H below the limit, and the number of those above it:", below, above)
	}
}

// P12.1: numbers that wrap around.
func TestNormalWild(t *testing.T) {
	for _, x := range wild() {
		for _, y := range wild() {
			for _, h := range wild() {
				checks(t, x, y, h)
			}
		}
	}
	for _, v := range legs(1, 100) {
		h, _ := length(v)
		for _, far := range []int{1 << 32, -1 << 32, 1 << 62, math.MinInt} {
			checks(t, v.X+far, v.Y, h)
			checks(t, v.X, v.Y+far, h)
			checks(t, v.X, v.Y, h+far)
			checks(t, v.X+far, v.Y+far, h+far)
		}
	}
}

// norms tests Norm.
func norms(t *testing.T, a, b api.Point) bool {
	t.Helper()
	d, ok := convex.Norm(a, b)
	want, exists := outward(minus(b, a))
	if ok != exists || d != want {
		t.Error("P12.1: Norm of", a, b, "is", d, ok, "not", want, exists)
	}
	if ok && (!normal(d) || !convex.Normal(d) || inner(at(d.X, d.Y), minus(b, a)) != 0 || outer(minus(b, a), at(d.X, d.Y)) >= 0) {
		t.Error("P12.1: Norm of", a, b, "is no outward normal:", d)
	}
	return ok
}

// P12.1: all short sides, at several places.
func TestNormSmall(t *testing.T) {
	if d, ok := convex.Norm(at(4, 0), at(0, 3)); !ok || d != (api.Dir{X: 3, Y: 4, H: 5}) {
		t.Error("P12.1: Norm of the example:", d, ok)
	}
	for _, a := range of(0, 0, 7, -3, -furthest, furthest-50) {
		for x := range 51 {
			for y := -50; y <= 50; y++ {
				norms(t, a, plus(a, at(x, y)))
				norms(t, plus(a, at(x, y)), a)
			}
		}
	}
}

// P12.1: sides of all lengths up to the longest one, and sides near to them.
func TestNorm(t *testing.T) {
	r := source("Norm")
	long := 0
	corners := of(-furthest, -furthest, -furthest, furthest, furthest, -furthest, furthest, furthest)
	for _, a := range corners {
		for _, b := range corners {
			norms(t, a, b)
		}
	}
	for _, v := range slices.Concat(legs(1, 300), legs(2899000, 2901000), of(1, 0, 0, 1)) {
		v = product(v, quarter(r))
		size := max(v.X, -v.X, v.Y, -v.Y)
		for _, by := range []int{1, 2, 1 + r.IntN(10), 2 * furthest / size} {
			if by == 0 || size*by > 2*furthest {
				continue
			}
			if size > 2000000 {
				long++
			}
			side := product(v, at(by, 0))
			// A place where all of it is in the range.
			a := at(max(-furthest, -furthest-side.X), max(-furthest, -furthest-side.Y))
			if !norms(t, a, plus(a, side)) {
				t.Error("P12.1: Norm finds no length of", side)
			}
			for _, d := range of(1, 0, -1, 0, 0, 1, 0, -1) {
				if b := plus(a, plus(side, d)); max(b.X, b.Y) <= furthest && min(b.X, b.Y) >= -furthest {
					norms(t, a, b)
				}
			}
		}
	}
	if long < 10 {
		t.Error("too few long sides without a common divisor:", long)
	}
	for range 20000 {
		p := func() api.Point { return at(r.IntN(2*furthest+1)-furthest, r.IntN(2*furthest+1)-furthest) }
		norms(t, p(), p())
	}
}

// valids tests Valid.
func (s shape) valids(t *testing.T) bool {
	t.Helper()
	l := slices.Clone(s)
	got := convex.Valid(l)
	if got != s.valid() {
		t.Fatal("P12.1: Valid of", s, "is", got)
	}
	kept(t, l, s)
	return got
}

// P12.1: all lists of few points with small coordinates.
func TestValidSmall(t *testing.T) {
	counts := make([]int, 5)
	for n := range counts {
		size := []int{1, 5, 5, 5, 4}[n]
		total := 1
		for range n {
			total *= size * size
		}
		for number := range total {
			var s shape
			for range n {
				s = append(s, at(number%size, number/size%size))
				number /= size * size
			}
			if s.valids(t) {
				counts[n]++
			}
		}
	}
	// There are 8 triangles with the legs 3 and 4 in 2 places each, and 36 rectangles, all of which can begin with each corner.
	if !slices.Equal(counts, []int{0, 0, 0, 48, 144}) {
		t.Error("P12.1: numbers of valid shapes:", counts)
	}
}

// P12.1: shapes with up to 12 sides.
func TestValid(t *testing.T) {
	r := source("Valid")
	counts := map[int]int{}
	for i := range 1500 {
		s := polygon(r, 1+i%5)
		if s.valids(t) != (len(s) <= 8) {
			t.Fatal("P12.1: Valid of", s)
		}
		counts[len(s)]++
		if s.reversed().valids(t) {
			t.Fatal("P12.1: Valid of a clockwise shape", s)
		}
		for k := range s {
			s.from(k).valids(t)
			s[:k].valids(t)
		}
	}
	for n := 3; n <= 10; n++ {
		if counts[n] < 20 {
			t.Error("shapes with", n, "sides:", counts[n])
		}
	}
}

// P12.1: shapes of which one corner is another one.
func TestValidChanged(t *testing.T) {
	accepted := 0
	for _, s := range shapes("ValidChanged", 250) {
		if !s.valids(t) {
			t.Fatal("P12.1: Valid of", s)
		}
		for i, p := range s {
			near := slices.Concat(of(1, 0, -1, 0, 0, 1, 0, -1).moved(p), s)
			for k, v := range s {
				near = append(near, plus(p, minus(s.next(k), v)), minus(p, minus(s.next(k), v)))
			}
			for _, q := range near {
				if s.with(i, q).valids(t) && q != p {
					accepted++
				}
				slices.Insert(slices.Clone(s), i, q).valids(t)
			}
			slices.Delete(slices.Clone(s), i, i+1).valids(t)
		}
	}
	if accepted == 0 {
		t.Error("no changed shape is valid")
	}
}

// P12.1: corners on a side, whose two parts have integer lengths, too.
func TestValidStraight(t *testing.T) {
	for _, s := range shapes("ValidStraight", 200) {
		for i, p := range s {
			side := minus(s.next(i), p)
			parts := int(shared(side.X, side.Y))
			for _, k := range []int{1, parts / 2, parts - 1} {
				if q := plus(p, at(side.X/parts*k, side.Y/parts*k)); slices.Insert(slices.Clone(s), i+1, q).valids(t) {
					t.Fatal("P12.1: Valid of", s, "with", q)
				}
			}
		}
	}
}

// P12.1: lists that turn to the left at all corners, but several times around.
func TestValidAround(t *testing.T) {
	for _, s := range []shape{triangle(), square()} {
		if slices.Concat(s, s).valids(t) {
			t.Error("P12.1: Valid of a shape twice:", s)
		}
	}
	for _, start := range of(0, 0, 100, -7) {
		sides := of(4, 0, 4, 3, 0, 4, -4, 3, -4, 0, -4, -3, 0, -4, 4, -3)
		for _, step := range []int{1, 3} {
			var l shape
			for i := range 8 {
				l = append(l, sides[i*step%8])
			}
			if walk(start, l).valids(t) != (step == 1) {
				t.Error("P12.1: Valid of the sides", l)
			}
		}
		star := shape{sides[0], sides[2], sides[4], sides[6], sides[1], sides[3], sides[5], sides[7]}
		if walk(start, star).valids(t) {
			t.Error("P12.1: Valid of a star")
		}
	}
}

// P12.1: coordinates at the limits, beyond them, and so far that differences wrap around to those of a shape.
func TestValidLimits(t *testing.T) {
	for _, s := range append(shapes("ValidLimits", 100), of(-furthest, -furthest, furthest, -furthest, furthest, furthest, -furthest, furthest)) {
		low, high := s.ends()
		for _, v := range []api.Point{at(furthest-high.X, 0), at(-furthest-low.X, 0), at(0, furthest-high.Y), at(0, -furthest-low.Y)} {
			if !s.moved(v).valids(t) {
				t.Fatal("P12.1: Valid of", s, "moved by", v)
			}
			for _, d := range of(1, 0, -1, 0, 0, 1, 0, -1) {
				s.moved(plus(v, d)).valids(t)
			}
		}
		for _, far := range wild()[5:] {
			for _, v := range []api.Point{at(far, 0), at(0, far), at(far, far)} {
				if s.moved(v).valid() {
					continue
				}
				s.moved(v).valids(t)
				for i, p := range s {
					s.with(i, plus(p, v)).valids(t)
				}
			}
		}
	}
}

// P12.2: by hand, and against the triangles at a corner.
func TestArea(t *testing.T) {
	for _, x := range []struct {
		s    shape
		want int
	}{
		{triangle(), 12},
		{square(), 8},
		{of(0, 0, 1, 0, 1, 1, 0, 1), 2},
		{of(5, 5, 2, 9, 2, 5), 12},
		{of(-furthest, -furthest, furthest, -furthest, furthest, furthest, -furthest, furthest), 1 << 43},
		{of(4, 0, 8, 3, 8, 7, 4, 10, 0, 10, -4, 7, -4, 3, 0, 0), 192},
	} {
		if got := convex.Area(x.s); got != x.want || !x.s.valid() {
			t.Error("P12.2: Area of", x.s, "is", got)
		}
	}
	for _, s := range shapes("Area", 2000) {
		was := slices.Clone(s)
		if got := convex.Area(s); got != s.twice() {
			t.Fatal("P12.2: Area of", s, "is", got)
		}
		kept(t, s, was)
	}
}

// P12.2, P12.4: Pick's theorem, for the points with integer coordinates.
func TestPick(t *testing.T) {
	tried := 0
	for _, s := range shapes("Pick", 400) {
		low, high := s.ends()
		if (high.X-low.X)*(high.Y-low.Y) > 900 {
			continue
		}
		tried++
		points, rim := 0, 0
		for x := low.X - 1; x <= high.X+1; x++ {
			for y := low.Y - 1; y <= high.Y+1; y++ {
				if convex.Has(s, exact(at(x, y)).vec()) {
					points++
				}
			}
		}
		for i, p := range s {
			side := minus(s.next(i), p)
			rim += int(shared(side.X, side.Y))
		}
		if convex.Area(s) != 2*points-rim-2 {
			t.Fatal("P12.2, P12.4: points of", s, points, "area", convex.Area(s))
		}
	}
	if tried < 40 {
		t.Error("too few small shapes:", tried)
	}
}

// P12.2.
func TestBox(t *testing.T) {
	if low, high := convex.Box(of(9, -5, 12, -1, 9, -1)); low != at(9, -5) || high != at(12, -1) {
		t.Error("P12.2: Box is", low, high)
	}
	for _, s := range shapes("Box", 2000) {
		was := slices.Clone(s)
		low, high := convex.Box(s)
		if p, q := s.ends(); low != p || high != q {
			t.Fatal("P12.2: Box of", s, "is", low, high)
		}
		kept(t, s, was)
	}
}

// directions returns normal directions: those of the sides, their negative ones, the axes, and ones with great numbers.
func (s shape) directions() []api.Dir {
	l := []api.Dir{{X: 1, H: 1}, {X: -1, H: 1}, {Y: 1, H: 1}, {Y: -1, H: 1}}
	for _, v := range slices.Concat(legs(1, 30), legs(4194301, longest)) {
		h, _ := length(v)
		l = append(l, api.Dir{X: v.X, Y: v.Y, H: h}, api.Dir{X: -v.X, Y: v.Y, H: h}, api.Dir{X: v.X, Y: -v.Y, H: h}, api.Dir{X: -v.X, Y: -v.Y, H: h})
	}
	for i, p := range s {
		d, _ := outward(minus(s.next(i), p))
		l = append(l, d, api.Dir{X: -d.X, Y: -d.Y, H: d.H})
	}
	return l
}

// P12.2, P12.8.
func TestMost(t *testing.T) {
	if got := convex.Most(triangle(), api.Dir{X: 3, Y: 4, H: 5}); got != 12 {
		t.Error("P12.2: Most of the triangle is", got)
	}
	if got := convex.Most(of(-9, -9, -7, -9, -7, -7, -9, -7), api.Dir{X: 1, H: 1}); got != -7 {
		t.Error("P12.2: Most of a square is", got)
	}
	r := source("MostInside")
	for _, s := range shapes("Most", 300) {
		was := slices.Clone(s)
		for _, d := range s.directions() {
			got := convex.Most(s, d)
			if got != s.reach(d) {
				t.Fatal("P12.2: Most of", s, d, "is", got)
			}
			p := s.inside(r)
			if p.dot(exact(at(d.X, d.Y))).Cmp(big.NewRat(int64(got), 1)) > 0 {
				t.Fatal("P12.8: Most of", s, d, "is", got, "less than at", p)
			}
		}
		for i, p := range s {
			d, _ := convex.Norm(p, s.next(i))
			if most := convex.Most(s, d); most != inner(at(d.X, d.Y), p) || most != inner(at(d.X, d.Y), s.next(i)) {
				t.Fatal("P12.8: Most of", s, d, "is", most)
			}
		}
		kept(t, s, was)
	}
}
