package convex_test

import (
	"cmp"
	"math/big"
	"math/rand/v2"
	"slices"
	"strconv"
	"strings"

	"gantry/api"
	"gantry/integer"
)

const (
	furthest = 1048576 // coordinates are from -furthest to furthest
	longest  = 4194304 // the H of directions is at most longest
)

// A shape is a list of corners.
type shape []api.Point

// of returns the corners with some coordinates: X and Y of the first one, and so on.
func of(l ...int) shape {
	var s shape
	for i := 0; i < len(l); i += 2 {
		s = append(s, at(l[i], l[i+1]))
	}
	return s
}

// at returns a point, and the others calculate with points: product as with complex numbers.
func at(x, y int) api.Point            { return api.Point{X: x, Y: y} }
func plus(p, q api.Point) api.Point    { return at(p.X+q.X, p.Y+q.Y) }
func minus(p, q api.Point) api.Point   { return at(p.X-q.X, p.Y-q.Y) }
func product(p, q api.Point) api.Point { return at(p.X*q.X-p.Y*q.Y, p.X*q.Y+p.Y*q.X) }
func inner(p, q api.Point) int         { return p.X*q.X + p.Y*q.Y }
func outer(p, q api.Point) int         { return p.X*q.Y - p.Y*q.X }

// next returns the corner after another one.
func (s shape) next(i int) api.Point {
	return s[(i+1)%len(s)]
}

// each returns the corners, changed by a function.
func (s shape) each(f func(p api.Point) api.Point) shape {
	l := make(shape, len(s))
	for i, p := range s {
		l[i] = f(p)
	}
	return l
}

// moved returns the corners moved by a vector.
func (s shape) moved(v api.Point) shape {
	return s.each(func(p api.Point) api.Point { return plus(p, v) })
}

// turned returns the corners multiplied, as complex numbers, by a factor.
func (s shape) turned(by api.Point) shape {
	return s.each(func(p api.Point) api.Point { return product(p, by) })
}

// reversed returns the corners in the opposite order.
func (s shape) reversed() shape {
	l := slices.Clone(s)
	slices.Reverse(l)
	return l
}

// mirrored returns the corners with negative X, counterclockwise again.
func (s shape) mirrored() shape {
	return s.each(func(p api.Point) api.Point { return at(-p.X, p.Y) }).reversed()
}

// from returns the corners, beginning with another one.
func (s shape) from(i int) shape {
	return slices.Concat(s[i:], s[:i])
}

// with returns the corners with another one at a place.
func (s shape) with(i int, p api.Point) shape {
	l := slices.Clone(s)
	l[i] = p
	return l
}

// ends returns the least and the greatest coordinates.
func (s shape) ends() (api.Point, api.Point) {
	low, high := s[0], s[0]
	for _, p := range s {
		low = at(min(low.X, p.X), min(low.Y, p.Y))
		high = at(max(high.X, p.X), max(high.Y, p.Y))
	}
	return low, high
}

// reach returns the greatest inner product of a direction with a corner.
func (s shape) reach(d api.Dir) int {
	var l []int
	for _, p := range s {
		l = append(l, inner(at(d.X, d.Y), p))
	}
	return slices.Max(l)
}

// String returns the coordinates.
func (s shape) String() string {
	var words []string
	for _, p := range s {
		words = append(words, strconv.Itoa(p.X)+" "+strconv.Itoa(p.Y))
	}
	return "(" + strings.Join(words, ", ") + ")"
}

// shared returns the greatest common divisor.
func shared(m, n int) int64 {
	return new(big.Int).GCD(nil, nil, big.NewInt(int64(m)), big.NewInt(int64(n))).Int64()
}

// length returns the length of a vector, if it is an integer greater than 0.
func length(v api.Point) (int, bool) {
	x, y := big.NewInt(int64(v.X)), big.NewInt(int64(v.Y))
	square := new(big.Int).Add(x.Mul(x, x), y.Mul(y, y))
	root := new(big.Int).Sqrt(square)
	return int(root.Int64()), root.Sign() > 0 && new(big.Int).Mul(root, root).Cmp(square) == 0
}

// normal reports whether a direction is normal.
func normal(d api.Dir) bool {
	x, y, h := big.NewInt(int64(d.X)), big.NewInt(int64(d.Y)), big.NewInt(int64(d.H))
	divisor := new(big.Int).GCD(nil, nil, h, new(big.Int).GCD(nil, nil, x, y))
	sum := new(big.Int).Add(x.Mul(x, x), y.Mul(y, y))
	return d.H >= 1 && d.H <= longest && sum.Cmp(h.Mul(h, h)) == 0 && divisor.Cmp(big.NewInt(1)) == 0
}

// outward returns the outward normal of a side with a vector, if there is one: H is the least number that makes both coordinates of the unit vector integers.
func outward(v api.Point) (api.Dir, bool) {
	h, ok := length(v)
	if !ok {
		return api.Dir{}, false
	}
	x, y := big.NewRat(int64(v.Y), int64(h)), big.NewRat(int64(-v.X), int64(h))
	m, n := x.Denom().Int64(), y.Denom().Int64()
	least := m / shared(int(m), int(n)) * n
	x.Mul(x, big.NewRat(least, 1))
	y.Mul(y, big.NewRat(least, 1))
	return api.Dir{X: int(x.Num().Int64()), Y: int(y.Num().Int64()), H: int(least)}, true
}

// valid reports whether a shape is valid.
func (s shape) valid() bool {
	for _, p := range s {
		if max(p.X, p.Y) > furthest || min(p.X, p.Y) < -furthest {
			return false
		}
	}
	for i, p := range s {
		along := minus(s.next(i), p)
		if _, ok := length(along); !ok {
			return false
		}
		for k, q := range s {
			if k != i && k != (i+1)%len(s) && outer(along, minus(q, p)) <= 0 {
				return false
			}
		}
	}
	return len(s) >= 3 && len(s) <= 8
}

// twice returns twice the area: the parallelograms of the triangles at the first corner.
func (s shape) twice() int {
	sum := 0
	for i := 2; i < len(s); i++ {
		sum += outer(minus(s[i-1], s[0]), minus(s[i], s[0]))
	}
	return sum
}

// edges returns the sides of a pair.
func edges(a, b shape) []api.Edge {
	var l []api.Edge
	add := func(d api.Dir) {
		if slices.ContainsFunc(l, func(e api.Edge) bool { return e.N == d }) {
			return
		}
		var all []int
		for _, p := range a {
			for _, q := range b {
				all = append(all, inner(at(d.X, d.Y), minus(p, q)))
			}
		}
		l = append(l, api.Edge{N: d, At: slices.Max(all)})
	}
	for i, p := range a {
		d, _ := outward(minus(a.next(i), p))
		add(d)
	}
	for i, p := range b {
		d, _ := outward(minus(p, b.next(i)))
		add(d)
	}
	return l
}

// differences returns all differences of a corner of a and a corner of b, each of them once.
func differences(a, b shape) shape {
	var l shape
	for _, p := range a {
		for _, q := range b {
			if d := minus(p, q); !slices.Contains(l, d) {
				l = append(l, d)
			}
		}
	}
	return l
}

// hull returns the corners of the convex hull of different points that are not all on a line: it has a side from p to q if all other points are on the left, or on the line between p and q.
func (s shape) hull() shape {
	next := map[api.Point]api.Point{}
	for _, p := range s {
		for _, q := range s {
			side := func(r api.Point) bool {
				left := outer(minus(q, p), minus(r, p))
				return r == p || r == q || left > 0 || left == 0 && inner(minus(p, r), minus(q, r)) < 0
			}
			if p != q && !slices.ContainsFunc(s, func(r api.Point) bool { return !side(r) }) {
				next[p] = q
			}
		}
	}
	first := slices.MinFunc(s, func(p, q api.Point) int { return cmp.Or(p.Y-q.Y, p.X-q.X) })
	l := shape{first}
	for p := next[first]; p != first; p = next[p] {
		l = append(l, p)
	}
	return l
}

// A vector has numbers of the oracle.
type vector struct {
	x, y *big.Rat
}

// exact returns a point as a vector.
func exact(p api.Point) vector {
	return vector{big.NewRat(int64(p.X), 1), big.NewRat(int64(p.Y), 1)}
}

// less, dot and cross calculate with vectors.
func (v vector) less(w vector) vector {
	return vector{new(big.Rat).Sub(v.x, w.x), new(big.Rat).Sub(v.y, w.y)}
}

func (v vector) dot(w vector) *big.Rat {
	x, y := new(big.Rat).Mul(v.x, w.x), new(big.Rat).Mul(v.y, w.y)
	return x.Add(x, y)
}

func (v vector) cross(w vector) *big.Rat {
	x, y := new(big.Rat).Mul(v.x, w.y), new(big.Rat).Mul(v.y, w.x)
	return x.Sub(x, y)
}

// along returns v + (w - v) * share.
func (v vector) along(w vector, share *big.Rat) vector {
	d := w.less(v)
	x, y := d.x.Mul(d.x, share), d.y.Mul(d.y, share)
	return vector{x.Add(x, v.x), y.Add(y, v.y)}
}

// number returns a number of the program.
func number(a *big.Rat) api.Rat {
	p, _ := integer.Parse(a.Num().String())
	q, _ := integer.Parse(a.Denom().String())
	if a.IsInt() {
		q = api.Int{}
	}
	return api.Rat{P: p, Q: q}
}

// vec returns a vector of the program.
func (v vector) vec() api.Vec {
	return api.Vec{X: number(v.x), Y: number(v.y)}
}

// String returns the numbers.
func (v vector) String() string {
	return "(" + v.x.RatString() + " " + v.y.RatString() + ")"
}

// contains reports whether a point is in one of the triangles at the first corner: it is a mixture of their corners.
func (s shape) contains(v vector) bool {
	away := v.less(exact(s[0]))
	for i := 2; i < len(s); i++ {
		u, w := exact(minus(s[i-1], s[0])), exact(minus(s[i], s[0]))
		whole := u.cross(w)
		p, q := away.cross(w), u.cross(away)
		if p.Sign() >= 0 && q.Sign() >= 0 && p.Add(p, q).Cmp(whole) <= 0 {
			return true
		}
	}
	return false
}

// clipped returns what a polygon has on the left of the line from p to q.
func clipped(l []vector, p, q vector) []vector {
	var rest []vector
	side := func(v vector) *big.Rat { return q.less(p).cross(v.less(p)) }
	for i, v := range l {
		w := l[(i+1)%len(l)]
		a, b := side(v), side(w)
		if a.Sign() >= 0 {
			rest = append(rest, v)
		}
		if a.Sign()*b.Sign() < 0 {
			rest = append(rest, v.along(w, new(big.Rat).Quo(a, new(big.Rat).Sub(a, b))))
		}
	}
	return rest
}

// overlap reports whether a, and b moved by r, have inner points in common: whether what they have in common has an area.
func overlap(a, b shape, r vector) bool {
	var l []vector
	for _, p := range b {
		l = append(l, vector{new(big.Rat).Add(r.x, exact(p).x), new(big.Rat).Add(r.y, exact(p).y)})
	}
	for i, p := range a {
		l = clipped(l, exact(p), exact(a.next(i)))
	}
	area := new(big.Rat)
	for i := range l {
		area.Add(area, l[i].cross(l[(i+1)%len(l)]))
	}
	return area.Sign() > 0
}

// source returns a source of chance that is always the same.
func source(name string) *rand.Rand {
	var seed [32]byte
	copy(seed[:], name)
	return rand.New(rand.NewChaCha8(seed))
}

// legs returns the vectors with positive coordinates, without a common divisor, whose lengths are integers from low to high.
func legs(low, high int) []api.Point {
	var l []api.Point
	for m := 2; m*m < high; m++ {
		for n := 1; n < m; n++ {
			h := m*m + n*n
			if h >= low && h <= high && (m+n)%2 == 1 && shared(m, n) == 1 {
				v := product(at(m, n), at(m, n))
				l = append(l, v, at(v.Y, v.X))
			}
		}
	}
	return l
}

// one returns an element of a list.
func one[E any](r *rand.Rand, l []E) E {
	return l[r.IntN(len(l))]
}

// quarter returns a factor that turns by quarters.
func quarter(r *rand.Rand) api.Point {
	return one(r, of(1, 0, 0, 1, -1, 0, 0, -1))
}

// ring returns the vectors of the sides of a triangle, or those of a segment, there and back.
func ring(r *rand.Rand) shape {
	v := one(r, append(legs(1, 60), of(1, 0, 1, 0, 2, 0, 0, 3)...))
	// The distances of the ends of a base from a height of 12, 24 or 60.
	height := one(r, [][]int{{12, 5, 9, 16, 35}, {24, 7, 10, 18, 32, 45, 70}, {60, 11, 25, 32, 45, 63, 80, 91}})
	p, q := one(r, height[1:]), -one(r, height[1:])
	switch r.IntN(5) {
	case 0:
		if v.X != 0 && v.Y != 0 {
			return shape{at(v.X, 0), at(0, v.Y), at(-v.X, -v.Y)}
		}
	case 1:
		return shape{at(p-q, 0), at(-p, height[0]), at(q, -height[0])}
	case 2:
		if q = -q; p > q {
			return shape{at(p-q, 0), at(-p, height[0]), at(q, -height[0])}
		}
	}
	return shape{v, at(-v.X, -v.Y)}
}

// around compares two vectors by the angles from the X axis, from 0 up to a whole turn.
func around(v, w api.Point) int {
	below := func(p api.Point) int {
		if p.Y < 0 || p.Y == 0 && p.X < 0 {
			return 1
		}
		return 0
	}
	return cmp.Or(below(v)-below(w), -outer(v, w))
}

// walk returns the corners that are reached from a point with the vectors of sides.
func walk(start api.Point, sides shape) shape {
	var l shape
	for _, v := range sides {
		l = append(l, start)
		start = plus(start, v)
	}
	return l
}

// merged returns vectors in the order of their angles, those of the same direction as one.
func (s shape) merged() shape {
	var l shape
	for _, v := range slices.SortedFunc(slices.Values(s), around) {
		if last := len(l) - 1; last >= 0 && around(l[last], v) == 0 {
			l[last] = plus(l[last], v)
		} else {
			l = append(l, v)
		}
	}
	return l
}

// polygon returns a convex shape without a limit of its sides and coordinates, the sum of triangles and segments.
func polygon(r *rand.Rand, rings int) shape {
	for {
		var l shape
		for range rings {
			factor := quarter(r)
			if r.IntN(4) == 0 {
				factor = product(factor, one(r, legs(1, 30)))
			}
			l = append(l, ring(r).turned(factor)...)
		}
		if l = l.merged(); len(l) > 2 {
			return walk(at(r.IntN(9)-4, r.IntN(9)-4), l)
		}
	}
}

// random returns a valid shape: small or as great as can be, near to 0 or at the limits.
func random(r *rand.Rand) shape {
	for {
		s := polygon(r, 1+r.IntN(4))
		if r.IntN(2) == 0 {
			s = s.mirrored()
		}
		s = s.from(r.IntN(len(s)))
		low, high := s.ends()
		size := max(high.X-low.X, high.Y-low.Y)
		if len(s) > 8 || size > 2*furthest {
			continue
		}
		switch r.IntN(4) {
		case 0:
			s = s.turned(at(2*furthest/size, 0))
		case 1:
			s = s.turned(at(1+r.IntN(2*furthest/size), 0))
		}
		low, high = s.ends()
		back, room := minus(at(-furthest, -furthest), low), minus(at(2*furthest, 2*furthest), minus(high, low))
		switch r.IntN(3) {
		case 0:
			s = s.moved(plus(back, at(r.IntN(room.X+1), r.IntN(room.Y+1))))
		case 1:
			s = s.moved(plus(back, at(r.IntN(2)*room.X, r.IntN(2)*room.Y)))
		}
		if s.valid() {
			return s
		}
	}
}

// shapes returns valid shapes.
func shapes(name string, count int) []shape {
	r := source(name)
	var l []shape
	for range count {
		l = append(l, random(r))
	}
	return l
}

// pairs calls a function with pairs of valid shapes, many of which have directions in common.
func pairs(name string, count int, f func(r *rand.Rand, a, b shape)) {
	r := source(name)
	for i := range count {
		a := random(r)
		b := random(r)
		switch i % 8 {
		case 0:
			b = a
		case 1:
			b = a.turned(at(-1, 0))
		case 2:
			b = a.mirrored()
		case 3:
			b = a.turned(at(0, 1))
		}
		f(r, a, b)
	}
}
