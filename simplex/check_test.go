package simplex_test

import (
	"math/big"
	"slices"
	"testing"

	"gantry/api"
	"gantry/rat"
	"gantry/simplex"
)

// checked tests Check with an answer, by the definition.
func checked(t *testing.T, m model, a api.Answer) {
	t.Helper()
	want := api.ErrProof
	if m.right(a) {
		want = api.OK
	}
	if e := simplex.Check(m.program(), a); e != want {
		t.Fatal("P10.2: Check of", m, "and", answerText(a), "returns", e, "not", want)
	}
}

// changed yields answers that differ from one in something.
func changed(a api.Answer, other api.Rat, yield func(b api.Answer)) {
	copied := func() api.Answer {
		return api.Answer{Kind: a.Kind, X: slices.Clone(a.X), Y: slices.Clone(a.Y), Value: a.Value}
	}
	change := func(f func(b *api.Answer)) {
		b := copied()
		f(&b)
		yield(b)
	}
	for _, kind := range []int{api.Optimal, api.Infeasible, api.Unbounded, -1, 3, 1 << 62, -1 << 63} {
		change(func(b *api.Answer) { b.Kind = kind })
		change(func(b *api.Answer) { b.Kind, b.Value = kind, api.Rat{} })
		change(func(b *api.Answer) { b.Kind, b.X = kind, nil })
		change(func(b *api.Answer) { b.Kind, b.X, b.Value = kind, nil, api.Rat{} })
		change(func(b *api.Answer) { b.Kind, b.X, b.Y = kind, b.Y, b.X })
	}
	for _, n := range []api.Rat{other, rat.Neg(other), {}} {
		change(func(b *api.Answer) { b.Value = rat.Add(b.Value, n) })
		change(func(b *api.Answer) { b.Value = n })
		change(func(b *api.Answer) { b.X = append(b.X, n) })
		change(func(b *api.Answer) { b.Y = append(b.Y, n) })
		for k := range a.X {
			change(func(b *api.Answer) { b.X[k] = rat.Add(b.X[k], n) })
			change(func(b *api.Answer) { b.X[k] = n })
		}
		for i := range a.Y {
			change(func(b *api.Answer) { b.Y[i] = rat.Add(b.Y[i], n) })
			change(func(b *api.Answer) { b.Y[i] = n })
		}
	}
	for _, by := range []api.Rat{other, rat.Neg(other)} {
		change(func(b *api.Answer) {
			for i := range b.Y {
				b.Y[i] = rat.Mul(b.Y[i], by)
			}
		})
	}
	for _, n := range []int{0, 1, len(a.X) - 1} {
		change(func(b *api.Answer) { b.X = b.X[:max(0, min(n, len(b.X)))] })
	}
	for _, n := range []int{0, 1, len(a.Y) - 1} {
		change(func(b *api.Answer) { b.Y = b.Y[:max(0, min(n, len(b.Y)))] })
	}
}

// P10.2: right answers, and what small changes make of them.
func TestCheck(t *testing.T) {
	r := source("Check")
	right, wrong := 0, 0
	test := func(m model, a api.Answer) {
		t.Helper()
		checked(t, m, a)
		changed(a, canonical(fraction(1+r.Int64N(5), 1+r.Int64N(3))), func(b api.Answer) {
			checked(t, m, b)
			if m.right(b) {
				right++
			} else {
				wrong++
			}
		})
	}
	for i := range 60 {
		number := kinds()[i%4]
		vars, lines := r.IntN(4), 1+r.IntN(5)
		m, _ := someBounded(r, vars, lines, number)
		test(m, solved(t, m))
		m = someInfeasible(r, vars, lines, number)
		test(m, solved(t, m))
		m = someUnbounded(r, vars+1, lines, number)
		test(m, solved(t, m))
		m = some(r, vars, lines, number, 2)
		test(m, solved(t, m))
		test(m.towards(zeros(vars)), solved(t, m.towards(zeros(vars))))
	}
	if right < 1000 || wrong < 10000 {
		t.Error("too few answers:", right, wrong)
	}
}

// P10.2: all answers of small integers to small programs.
func TestCheckAll(t *testing.T) {
	programs := []model{
		of(nil), of(nil, []int{0}), of(nil, []int{-1}), of(nil, []int{1}, []int{-1}),
		of([]int{0}), of([]int{1}), of([]int{1}, []int{1, 1}), of([]int{1}, []int{-1, 1}), of([]int{-1}, []int{-1, 1}),
		of([]int{1}, []int{1, 0}), of([]int{0}, []int{1, 1}), of([]int{1}, []int{0, -1}), of([]int{1}, []int{1, -1}, []int{-1, 0}),
		of([]int{1}, []int{1, 1}, []int{1, 1}), of([]int{2}, []int{1, 1}, []int{1, 0}), of([]int{0}, []int{1, -1}, []int{-1, 1}),
		of([]int{1, 1}, []int{1, 0, 1}), of([]int{1, 1}, []int{1, 1, 1}), of([]int{0, 1}, []int{1, 1, 1}, []int{-1, 0, 0}), of([]int{1, 0}, []int{1, 1, 0}, []int{-1, -1, -1}),
	}
	right := 0
	numbers := []int{-1, 0, 1, 2}
	for _, m := range programs {
		for _, kind := range []int{-1, api.Optimal, api.Infeasible, api.Unbounded, 3} {
			for points := range 3 {
				for others := range 3 {
					for _, both := range all(points+others, numbers...) {
						for _, value := range []int{-1, 0, 1} {
							l := list(vector(both...))
							a := api.Answer{Kind: kind, X: l[:points], Y: l[points:], Value: rat.Of(value, 1)}
							checked(t, m, a)
							if m.right(a) {
								right++
							}
						}
					}
				}
			}
		}
	}
	if right < 80 {
		t.Error("too few right answers:", right)
	}
}

// P10.2: right answers that Solve does not return.
func TestCheckOthers(t *testing.T) {
	accepted := func(m model, a api.Answer) {
		t.Helper()
		if e := simplex.Check(m.program(), a); e != api.OK || !m.right(a) {
			t.Error("P10.2: Check of", m, "and", answerText(a), "returns", e)
		}
	}
	numbers := func(l ...int) []api.Rat { return list(vector(l...)) }
	square := of([]int{1, 0}, []int{1, 0, 2}, []int{0, 1, 2}, []int{-1, 0, 0}, []int{0, -1, 0}, []int{2, 0, 4})
	half := rat.Of(1, 2)
	for y := range 3 {
		accepted(square, api.Answer{X: numbers(2, y), Y: numbers(1, 0, 0, 0, 0), Value: rat.Of(2, 1)})
		accepted(square, api.Answer{X: []api.Rat{rat.Of(2, 1), half}, Y: []api.Rat{{}, {}, {}, {}, half}, Value: rat.Of(2, 1)})
	}
	gone := of([]int{1}, []int{1, -1}, []int{-1, 0}, []int{2, -5})
	for _, y := range [][]int{{1, 1, 0}, {2, 2, 0}, {0, 2, 1}, {2, 4, 1}} {
		accepted(gone, api.Answer{Kind: api.Infeasible, Y: numbers(y...)})
		accepted(gone, api.Answer{Kind: api.Infeasible, X: []api.Rat{}, Y: numbers(y...)})
	}
	endless := of([]int{1, 1}, []int{0, 1, 1})
	for _, ray := range [][]int{{1, 0}, {5, 0}, {2, -1}} {
		for _, x := range [][]int{{0, 0}, {0, 1}, {-9, -9}} {
			accepted(endless, api.Answer{Kind: api.Unbounded, X: numbers(x...), Y: numbers(ray...)})
		}
	}
}

// P10.2, P10.5: where there is a right answer, none of another kind or with another value is right.
func TestDuality(t *testing.T) {
	r := source("Duality")
	for i := range 300 {
		number := kinds()[i%4]
		m, value := someBounded(r, r.IntN(5), 1+r.IntN(7), number)
		n := len(m.goal)
		// A point and numbers of at least 0 that add up to the goal.
		x, y := exactList(solved(t, m.towards(zeros(n))).X), exactList(solved(t, m).Y)
		if a := solved(t, m.towards(someVector(r, n, number))); a.Kind == api.Optimal {
			x = exactList(a.X)
		}
		if !m.within(x) || !m.adds(y, m.goal) || inner(m.goal, x).Cmp(inner(y, m.sides())) > 0 || inner(m.goal, x).Cmp(value) > 0 {
			t.Fatal("P10.5: the goal at a point of", m, vectorText(x), vectorText(y))
		}
		if inner(m.goal, x).Cmp(value) < 0 {
			for _, v := range []*big.Rat{value, inner(m.goal, x)} {
				if e := simplex.Check(m.program(), api.Answer{X: list(x), Y: list(y), Value: canonical(v)}); e != api.ErrProof {
					t.Fatal("P10.5: Check of", m, "and a point that is not the best", vectorText(x), e)
				}
			}
		}
		a := solved(t, m)
		for _, kind := range []int{api.Infeasible, api.Unbounded} {
			for _, b := range []api.Answer{{Kind: kind, X: a.X, Y: a.Y}, {Kind: kind, Y: a.Y}, {Kind: kind, X: a.X, Y: a.X}} {
				if e := simplex.Check(m.program(), b); e != api.ErrProof {
					t.Fatal("P10.5: Check of", m, "and another kind", answerText(b), e)
				}
			}
		}
	}
}
