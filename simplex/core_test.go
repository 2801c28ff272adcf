package simplex_test

import (
	"slices"
	"testing"

	"gantry/api"
	"gantry/simplex"
)

// leaving returns the program with the lines of some groups, and those of no group.
func leaving(m model, groups, left []int) model {
	n := model{goal: zeros(len(m.goal))}
	for i, g := range groups {
		if g == -1 || slices.Contains(left, g) {
			n.lines = append(n.lines, m.lines[i])
		}
	}
	return n
}

// contradictory reports whether no point satisfies all lines of some groups and of no group; the answer shows it.
func contradictory(t *testing.T, m model, groups, left []int) bool {
	t.Helper()
	return solved(t, leaving(m, groups, left)).Kind == api.Infeasible
}

// coreOf returns what Core returns for a program and groups, which has to be what the chapter says. If there is nothing, it returns false.
func coreOf(t *testing.T, m model, groups []int) ([]int, bool) {
	t.Helper()
	p, kept := m.program(), slices.Clone(groups)
	var got []int
	var e api.Errno
	soon(t, func() { got, e = simplex.Core(p, groups) })
	if !equalPrograms(p, m.program()) || !slices.Equal(groups, kept) {
		t.Fatal("P10.4: Core changes its arguments", m, groups)
	}
	want := slices.DeleteFunc(slices.Sorted(slices.Values(groups)), func(g int) bool { return g == -1 })
	want = slices.Compact(want)
	if !contradictory(t, m, groups, want) {
		if e != api.ErrNone || len(got) > 0 {
			t.Fatal("P10.4: Core of", m, groups, "returns", got, e, "not api.ErrNone")
		}
		return nil, false
	}
	for _, g := range slices.Clone(want) {
		without := slices.DeleteFunc(slices.Clone(want), func(h int) bool { return h == g })
		if contradictory(t, m, groups, without) {
			want = without
		}
	}
	if e != api.OK || !slices.Equal(got, want) {
		t.Fatal("P10.4: Core of", m, groups, "returns", got, e, "not", want)
	}
	// P10.8.
	if !contradictory(t, m, groups, got) {
		t.Fatal("P10.8: Core of", m, groups, "is not contradictory:", got)
	}
	for _, g := range got {
		if contradictory(t, m, groups, slices.DeleteFunc(slices.Clone(got), func(h int) bool { return h == g })) {
			t.Fatal("P10.8: Core of", m, groups, "is contradictory without", g, ":", got)
		}
	}
	return got, true
}

// coreIs tests what Core returns.
func coreIs(t *testing.T, m model, groups []int, want ...int) {
	t.Helper()
	if got, found := coreOf(t, m, groups); !found || !slices.Equal(got, want) {
		t.Fatal("P10.4: Core of", m, groups, "returns", got, found, "not", want)
	}
}

// P10.4: lists of groups that are known.
func TestCoreKnown(t *testing.T) {
	// x <= 2, x >= 3, x >= 4, x <= 5, x <= 1.
	m := of([]int{0}, []int{1, 2}, []int{-1, -3}, []int{-1, -4}, []int{1, 5}, []int{1, 1})
	coreIs(t, m, []int{0, 1, 2, 3, 4}, 2, 4)
	coreIs(t, m, []int{4, 3, 2, 1, 0}, 3, 4)
	coreIs(t, m, []int{4, 3, 3, 1, 0}, 3, 4)
	coreIs(t, m, []int{9, 9, 9, 9, 9}, 9)
	coreIs(t, m, []int{-1, 1, 2, 3, 4}, 2)
	coreIs(t, m, []int{-1, -1, -1, -1, -1})
	coreIs(t, m, []int{-1, -1, 2, 0, 4})
	coreIs(t, m, []int{-1, 5, -1, -1, 0})
	coreIs(t, m, []int{0, -1, 1, 2, 3}, 3)
	coreIs(t, m, []int{3, -1, 1, 2, 0}, 3)
	coreIs(t, m, []int{1 << 62, 1<<63 - 1, 0, 1 << 62, 1<<63 - 1}, 1<<63-1)
	// 0 <= -1, twice.
	n := of([]int{1, 1}, []int{0, 0, -1}, []int{1, 0, 3}, []int{0, 0, -1})
	coreIs(t, n, []int{0, 1, 2}, 2)
	coreIs(t, n, []int{2, 1, 0}, 2)
	coreIs(t, n, []int{5, 5, 5}, 5)
	coreIs(t, n, []int{-1, 5, 5})
	coreIs(t, of(nil, []int{-1}, []int{0}), []int{3, 2}, 3)
	// The goal does not matter.
	coreIs(t, n.towards(vector(-3, 8)), []int{0, 1, 2}, 2)
	// All three lines of a triangle are needed, in any order.
	triangle := of([]int{0, 0}, []int{1, 0, 0}, []int{0, 1, 0}, []int{-1, -1, -1})
	coreIs(t, triangle, []int{0, 1, 2}, 0, 1, 2)
	coreIs(t, triangle, []int{2, 0, 1}, 0, 1, 2)
	coreIs(t, triangle, []int{2, 2, 1}, 1, 2)
	coreIs(t, triangle, []int{-1, 2, -1}, 2)
}

// P10.4: what Core does not take, and lists that are not contradictory.
func TestCoreErrors(t *testing.T) {
	test := func(m model, groups []int, want api.Errno) {
		t.Helper()
		if l, e := simplex.Core(m.program(), groups); e != want || len(l) > 0 {
			t.Error("P10.4: Core of", m, groups, "returns", l, e, "not", want)
		}
	}
	m := of([]int{1}, []int{1, 2}, []int{-1, -3})
	for _, groups := range [][]int{nil, {}, {0}, {0, 0, 0}, {0, -2}, {-2, 0}, {-1, -1 << 63}, {0, 1, -1}, make([]int, 64), make([]int, 65)} {
		test(m, groups, api.ErrArg)

	}
	possible := of([]int{1}, []int{1, 3}, []int{-1, -3})
	test(possible, []int{0, 1}, api.ErrNone)
	test(possible, []int{-1, -1}, api.ErrNone)
	test(possible, []int{0, -1}, api.ErrNone)
	test(possible, []int{0, -2}, api.ErrArg)
	test(possible, []int{0}, api.ErrArg)
	test(of(nil), nil, api.ErrNone)
	test(of(nil), []int{}, api.ErrNone)
	test(of(nil), []int{0}, api.ErrArg)
	test(of([]int{1}), nil, api.ErrNone)
	test(of([]int{1}), []int{-1}, api.ErrArg)
}

// P10.4, P10.8: all programs with one variable and three lines, and all groups.
func TestCoreSmall(t *testing.T) {
	lines := [][]int{{0, -1}, {0, 0}, {1, -1}, {1, 1}, {-1, -1}, {-1, 0}}
	for _, k := range lines {
		for _, l := range lines {
			for _, n := range lines {
				for _, groups := range all(3, -1, 0, 1) {
					coreOf(t, of([]int{1}, k, l, n), groups)
				}
			}
		}
	}
}

// P10.4, P10.8: any programs and groups.
func TestCore(t *testing.T) {
	r := source("Core")
	found := map[int]int{}
	test := func(m model, most int) {
		t.Helper()
		groups := make([]int, len(m.lines))
		for i := range groups {
			groups[i] = r.IntN(most+1) - 1
		}
		if l, ok := coreOf(t, m, groups); ok {
			found[len(l)]++
		}
		for i, place := range r.Perm(len(groups)) {
			groups[i] = place
		}
		if l, ok := coreOf(t, m, groups); ok {
			found[len(l)]++
		}
	}
	for i := range 300 {
		number := kinds()[i%4]
		vars, lines := r.IntN(5), 1+r.IntN(8)
		test(some(r, vars, lines, number, 0), 1+r.IntN(6))
		m := someInfeasible(r, vars, lines, number)
		test(m, 1+r.IntN(6))
		// Some more contradictions, and lines that meet in a point.
		m = m.with(someInfeasible(r, vars, 1+r.IntN(4), number).lines...)
		test(m.with(m.lines[r.IntN(len(m.lines))]), 1+r.IntN(9))
		for _, l := range m.lines {
			l.b.SetInt64(int64(max(-1, r.IntN(8)-6)))
		}
		test(m, 1+r.IntN(6))
	}
	for n := range 6 {
		if found[n] < 10 {
			t.Error("too few lists of the length", n, found)
		}
	}
}

// P1, P10.4: the greatest programs take no longer than a moment.
func TestCoreGreat(t *testing.T) {
	r := source("CoreGreat")
	for i, vars := range []int{32, 20, 8} {
		m := some(r, vars, 63, kinds()[i], -3)
		m = m.with(someInfeasible(r, vars, 1, plain).lines...)
		groups := r.Perm(64)
		var l []int
		var e api.Errno
		soon(t, func() { l, e = simplex.Core(m.program(), groups) })
		if e != api.OK || len(l) == 0 {
			t.Error("P10.4: Core of a great program", l, e)
		}
	}
	coreOf(t, some(r, 6, 64, plain, -3), r.Perm(64))
}
