package convex

import (
	"cmp"
	"slices"

	"gantry/api"
)

// opposite returns the negative of a direction.
func opposite(d api.Dir) api.Dir {
	return api.Dir{X: -d.X, Y: -d.Y, H: d.H}
}

// Sides returns the edges that separate b from a, for the position of b relative to a.
func Sides(a, b []api.Point) []api.Edge {
	var l []api.Edge
	add := func(n api.Dir) {
		known := func(e api.Edge) bool { return e.N == n }
		if !slices.ContainsFunc(l, known) {
			// The least inner product of b is the negative of the greatest one for the opposite direction.
			l = append(l, api.Edge{N: n, At: Most(a, n) + Most(b, opposite(n))})
		}
	}
	for i := range len(a) {
		n, _ := Norm(side(a, i))
		add(n)
	}
	for i := range len(b) {
		n, _ := Norm(side(b, i))
		add(opposite(n))
	}
	return l
}

// rim returns the corners of the convex hull of sorted points from the first point on, counterclockwise, up to the one before the last point.
func rim(l []api.Point) []api.Point {
	var corners []api.Point
	for _, p := range l {
		n := len(corners)
		for n > 1 && turn(corners[n-2], corners[n-1], p) <= 0 {
			n--
		}
		corners = append(corners[:n], p)
	}
	return corners[:max(0, len(corners)-1)]
}

// Sum returns the corners of the sum of a and the negative of b, counterclockwise.
func Sum(a, b []api.Point) []api.Point {
	var l []api.Point
	for _, p := range a {
		for _, q := range b {
			l = append(l, api.Point{X: p.X - q.X, Y: p.Y - q.Y})
		}
	}
	slices.SortFunc(l, func(p, q api.Point) int {
		return cmp.Or(cmp.Compare(p.Y, q.Y), cmp.Compare(p.X, q.X))
	})
	right := rim(l)
	slices.Reverse(l)
	return append(right, rim(l)...)
}
