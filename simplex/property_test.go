package simplex_test

import (
	"math/big"
	"slices"
	"testing"

	"gantry/api"
)

// P10.6: what changes neither kind nor value, and what moving all points changes.
func TestSame(t *testing.T) {
	r := source("Same")
	found := map[int]int{}
	for i := range 500 {
		number := kinds()[i%4]
		m := some(r, r.IntN(5), 1+r.IntN(8), number, int64(r.IntN(7)-1))
		if i%3 == 0 {
			m, _ = someBounded(r, r.IntN(5), 1+r.IntN(8), number)
		}
		a := solved(t, m)
		found[a.Kind]++
		at := r.IntN(len(m.lines))
		scaled := m.towards(m.goal)
		scaled.lines = slices.Clone(m.lines)
		scaled.lines[at] = scaledLine(m.lines[at], fraction(1+r.Int64N(90), 1+r.Int64N(90)))
		exchanged := m.towards(m.goal)
		exchanged.lines = slices.Clone(m.lines)
		slices.Reverse(exchanged.lines[at:])
		for _, n := range []model{scaled, exchanged, m.with(m.lines[at]), shuffled(r, m)} {
			if b := solved(t, n); b.Kind != a.Kind || !equalNumbers(b.Value, a.Value) {
				t.Fatal("P10.6: the answers of", m, n, answerText(a), answerText(b))
			}
		}
		by := someVector(r, len(m.goal), number)
		moved := m.towards(m.goal)
		moved.lines = nil
		for _, l := range m.lines {
			moved.lines = append(moved.lines, line{l.a, new(big.Rat).Add(l.b, inner(l.a, by))})
		}
		want := exact(a.Value)
		if a.Kind == api.Optimal {
			want.Add(want, inner(m.goal, by))
		}
		if b := solved(t, moved); b.Kind != a.Kind || exact(b.Value).Cmp(want) != 0 {
			t.Fatal("P10.6: the answers of", m, moved, answerText(a), answerText(b))
		}
	}
	for _, kind := range []int{api.Optimal, api.Infeasible, api.Unbounded} {
		if found[kind] < 50 {
			t.Error("too few programs of the kind", kind, found)
		}
	}
}

// P10.7: further lines.
func TestMore(t *testing.T) {
	r := source("More")
	less := 0
	for i := range 300 {
		number := kinds()[i%4]
		m := some(r, r.IntN(5), 0, number, 0)
		before := solved(t, m)
		for range 1 + r.IntN(9) {
			m = m.with(some(r, len(m.goal), 1, number, int64(r.IntN(7)-1)).lines...)
			after := solved(t, m)
			switch {
			case before.Kind == api.Infeasible && after.Kind != api.Infeasible,
				before.Kind == api.Optimal && after.Kind == api.Unbounded,
				before.Kind == api.Optimal && after.Kind == api.Optimal && exact(after.Value).Cmp(exact(before.Value)) > 0:
				t.Fatal("P10.7: with another line,", m, "has", answerText(after), "after", answerText(before))
			case before.Kind == api.Optimal && after.Kind == api.Optimal && exact(after.Value).Cmp(exact(before.Value)) < 0:
				less++
			}
			before = after
		}
	}
	if less < 20 {
		t.Error("too few lines that matter:", less)
	}
}
