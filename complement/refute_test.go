package complement_test

import (
	"math/big"
	"math/rand/v2"
	"slices"
	"testing"

	"gantry/api"
	"gantry/complement"
	"gantry/rat"
)

// P11.4: by hand.
func TestRefuteExamples(t *testing.T) {
	problem{}.refuted(t, false)
	of([]int{-1}, []int{0}).refuted(t, true)
	of([]int{-1}, []int{-2}).refuted(t, true)
	of([]int{-1}, []int{1}).refuted(t, false)
	of([]int{0}, []int{-1}).refuted(t, false)
	of([]int{5}, []int{0}).refuted(t, false)
	of([]int{1, -2}, []int{-1, 1}, []int{1, -1}).refuted(t, true)
	of([]int{2, -2}, []int{-1, 1}, []int{1, -1}).refuted(t, false)
	of([]int{-5, -6}, []int{2, 1}, []int{1, 2}).refuted(t, false)
	m, q := of([]int{-1}, []int{0}).lists()
	if !complement.Refuted(m, q, []api.Rat{rat.Of(1, 1)}) || complement.Refuted(m, q, []api.Rat{rat.Of(-1, 1)}) || complement.Refuted(m, q, nil) {
		t.Error("P11.4: Refuted of the example")
	}
}

// P11.4, P11.8: there is a refutation exactly if there is no z >= 0 with m z + q >= 0.
func TestRefuteSmall(t *testing.T) {
	one := func(p problem) { p.refuted(t, !p.possible()) }
	small(1, -2, 2, 3, one)
	small(2, -1, 1, 2, one)
	found := 0
	for _, p := range problems("Refute", 800, 1, 4) {
		one(p)
		if !p.possible() {
			found++
		}
	}
	if found < 50 {
		t.Error("too few problems with a refutation:", found)
	}
}

// contradictory returns a problem with a refutation, of at least one pair.
func contradictory(r *rand.Rand, n int, number kind) (problem, vector) {
	p, y := problem{general(r, n, number), some(r, n, number)}, some(r, n, share)
	last := r.IntN(n)
	y[last].SetFrac64(1+r.Int64N(9), 1+r.Int64N(3))
	less := func(a, by *big.Rat) *big.Rat {
		if by.Sign() < 0 {
			return a
		}
		return minus(a, over(by, y[last]))
	}
	for k := range n {
		p.m[last][k] = less(p.m[last][k], inner(y, p.column(k)))
	}
	p.q[last] = less(p.q[last], plus(inner(y, p.q), fraction(1, 1+r.Int64N(1000))))
	if inner(y, p.q).Sign() >= 0 {
		p.q[last].Sub(p.q[last], fraction(1, 1))
	}
	return p, y
}

// consistent returns a problem that has a z >= 0 with m z + q >= 0.
func consistent(r *rand.Rand, n int, number kind) problem {
	p := problem{general(r, n, number), some(r, n, share)}
	p.q = p.w(some(r, n, share).scaled(fraction(-1, 1)))
	return p
}

// P11.4: problems of all sizes.
func TestRefute(t *testing.T) {
	r := source("RefuteWide")
	for i := range 150 {
		n, number := 1+r.IntN(10), kinds()[i%4]
		if i < 12 {
			n, number = 32-i%3, kinds()[i%3]
		}
		p, y := contradictory(r, n, number)
		p.refuted(t, true)
		p.checks(t, y)
		for _, l := range spoiled(y)[:min(n, 5)] {
			p.checks(t, l)
		}
		consistent(r, n, number).refuted(t, false)
	}
}

// P11.4: a right side of long numbers.
func TestRefuteLong(t *testing.T) {
	r := source("RefuteLong")
	for range 12 {
		p, _ := contradictory(r, 12, plain)
		by := make(vector, 12)
		for i := range by {
			by[i] = minus(p.q[i], fraction(1, 1+r.Int64()))
		}
		p.q = by
		p.refuted(t, true)
	}
}

// Results share no memory with arguments or with each other; equal problems have equal results.
func TestRefuteMemory(t *testing.T) {
	r := source("RefuteMemory")
	for range 20 {
		p, _ := contradictory(r, 1+r.IntN(6), plain)
		m, q := p.lists()
		a, _ := complement.Refute(m, q)
		b, _ := complement.Refute(m, q)
		if !equal(a, b) {
			t.Fatal("P11.4: Refute of", p, "twice")
		}
		was := slices.Clone(b)
		for i := range a[:cap(a)] {
			a[:cap(a)][i] = rat.Of(77, 5)
		}
		c, _ := complement.Refute(m, q)
		if !equal(b, was) || !equal(c, was) {
			t.Fatal("P11.4: results of Refute of", p, "share memory")
		}
		p.unchanged(t, m, q)
	}
}
