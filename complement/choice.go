package complement

import (
	"iter"

	"gantry/api"
	"gantry/matrix"
	"gantry/rat"
)

// choices yields all choices of n truth values in increasing order of their numbers, each as the list of its places with true.
func choices(n int) iter.Seq[[]int] {
	return func(yield func([]int) bool) {
		for number := range 1 << n {
			var places []int
			for i := range n {
				if number>>i&1 == 1 {
					places = append(places, i)
				}
			}
			if !yield(places) {
				return
			}
		}
	}
}

// candidate returns the only z that is 0 outside of some places, and whose w is 0 at them; false, if there is not exactly one.
func candidate(m [][]api.Rat, q []api.Rat, places []int) ([]api.Rat, bool) {
	part := make([][]api.Rat, len(places))
	side := make([]api.Rat, len(places))
	for i, place := range places {
		side[i] = rat.Neg(q[place])
		for _, k := range places {
			part[i] = append(part[i], m[place][k])
		}
	}
	if rank, _ := matrix.Rank(part); rank < len(places) {
		return nil, false
	}
	x, _ := matrix.Solve(part, side)
	z := make([]api.Rat, len(q))
	for i, place := range places {
		z[place] = x[i]
	}
	return z, true
}
