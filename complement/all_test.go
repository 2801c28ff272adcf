package complement_test

import (
	"testing"

	"gantry/api"
	"gantry/complement"
	"gantry/rat"
)

// are tests what All returns.
func (p problem) are(t *testing.T, want ...vector) {
	t.Helper()
	l := p.choices(t)
	if len(l) != len(want) {
		t.Fatal("P11.3: All of", p, "returns", text(l...), "not", text(want...))
	}
	for i, z := range l {
		if !z.same(want[i]) {
			t.Fatal("P11.3: All of", p, "returns", text(l...), "not", text(want...))
		}
	}
}

// P11.3: by hand.
func TestAllExamples(t *testing.T) {
	problem{}.are(t, nil)
	of([]int{-5, -6}, []int{2, 1}, []int{1, 2}).are(t, vector{fraction(4, 3), fraction(7, 3)})
	of([]int{-4, 1}, []int{2, 1}, []int{1, 2}).are(t, whole(2, 0))
	of([]int{-1}, []int{0}).are(t)
	// One choice has many z, but no candidate.
	of([]int{0}, []int{0}).are(t, whole(0))
	// Both choices have the same candidate.
	of([]int{0}, []int{3}).are(t, whole(0))
	of([]int{-1, -1}, []int{1, 2}, []int{2, 1}).are(t, whole(1, 0), whole(0, 1), vector{fraction(1, 3), fraction(1, 3)})
	of([]int{1, 1}, []int{-1, 0}, []int{0, -1}).are(t, whole(0, 0), whole(1, 0), whole(0, 1), whole(1, 1))
	of([]int{-1, 1, 0}, []int{1, 0, 1}, []int{0, -1, 0}, []int{-1, 0, 1}).are(t, vector{fraction(1, 2), fraction(0, 1), fraction(1, 2)}, vector{fraction(1, 2), fraction(1, 1), fraction(1, 2)})
	// The choices 1 and 5 have the same candidate, and so have 3 and 7.
	of([]int{-1, 1, 0}, []int{1, 0, 1}, []int{0, -1, 0}, []int{0, 0, 1}).are(t, whole(1, 0, 0), whole(1, 1, 0))
}

// P11.3: all problems of few numbers, and others of all forms.
func TestAll(t *testing.T) {
	small(1, -2, 2, 2, func(p problem) { p.choices(t) })
	small(2, -1, 1, 1, func(p problem) { p.choices(t) })
	several := 0
	for _, p := range problems("All", 500, 1, 5) {
		if len(p.choices(t)) > 1 {
			several++
		}
	}
	for _, p := range problems("AllGreatest", 20, 6, 8) {
		p.choices(t)
	}
	if several < 25 {
		t.Error("too few problems with several solutions:", several)
	}
}

// P11.3: the greatest problem of which each choice has a solution, and greater ones.
func TestAllLimit(t *testing.T) {
	for _, n := range []int{8, 9, 10, 31, 32} {
		p := problem{general(source("AllLimit"), n, rare), whole(make([]int, n)...)}
		for i := range n {
			p.m[i] = zeros(n).with(i, fraction(-1, 1))
			p.q[i].SetInt64(int64(i + 1))
		}
		m, q := p.lists()
		if n > 8 {
			soon(t, func() {
				if l, e := complement.All(m, q); e != api.ErrLimit || len(l) > 0 {
					t.Error("P11.3: All of", n, "pairs returns", e, len(l))
				}
			})
			continue
		}
		if l := p.choices(t); len(l) != 1<<n {
			t.Error("P11.3: All of", n, "pairs returns", len(l), "lists")
		}
	}
}

// Results share no memory with each other or with arguments.
func TestAllMemory(t *testing.T) {
	p := of([]int{1, 1}, []int{-1, 0}, []int{0, -1})
	m, q := p.lists()
	l, _ := complement.All(m, q)
	again, _ := complement.All(m, q)
	for i, z := range l {
		for k := range z[:cap(z)] {
			z[:cap(z)][k] = rat.Of(77, 5)
		}
		for k := i + 1; k < len(l); k++ {
			if !equal(l[k], again[k]) {
				t.Fatal("P11.3: lists of All share memory")
			}
		}
	}
	p.unchanged(t, m, q)
	if third, _ := complement.All(m, q); len(third) != 4 || !equal(third[0], again[0]) {
		t.Fatal("P11.3: results of All share memory")
	}
}
