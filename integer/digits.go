package integer

import (
	"cmp"
	"math/bits"

	"gantry/api"
)

// The functions of this file calculate with the digits of integers that are not negative, the least significant one first. Their arguments and results do not end with zeros.

const (
	decimals = 9 // the decimal digits of a digit
	fitting  = 2 // the most digits that always fit into a word
	longest  = 3 // the most digits of a number that fits into a word
)

// trim returns digits without the zeros at their end.
func trim(a []int) []int {
	for len(a) > 0 && a[len(a)-1] == 0 {
		a = a[:len(a)-1]
	}
	return a
}

// split returns the digits of a number.
func split(n uint64) []int {
	var room [longest]int
	used := 0
	for n > 0 {
		room[used] = int(n % api.Base)
		n /= api.Base
		used++
	}
	a := make([]int, used)
	copy(a, room[:])
	return a
}

// value returns the number with the given digits, modulo 2^64.
func value(a []int) uint64 {
	n := uint64(0)
	for i := range a {
		n = n*api.Base + uint64(a[len(a)-1-i])
	}
	return n
}

// carried returns the digit that a sum leaves at its place, and what it adds to the next place.
func carried(sum int) (int, int) {
	digit, carry := sum%api.Base, sum/api.Base
	if digit < 0 {
		return digit + api.Base, carry - 1
	}
	return digit, carry
}

// compare returns the sign of a - b.
func compare(a, b []int) int {
	if len(a) != len(b) {
		return cmp.Compare(len(a), len(b))
	}
	for i := len(a) - 1; i >= 0; i-- {
		if a[i] != b[i] {
			return cmp.Compare(a[i], b[i])
		}
	}
	return 0
}

// combine returns p * a + q * b, which must not be negative. The factors are less than Base, and their signs differ, or both are 1.
func combine(p int, a []int, q int, b []int) []int {
	n := max(len(a), len(b))
	result := make([]int, n+1)
	carry := 0
	for i := range n {
		sum := carry
		if i < len(a) {
			sum += p * a[i]
		}
		if i < len(b) {
			sum += q * b[i]
		}
		result[i], carry = carried(sum)
	}
	result[n] = carry
	return trim(result)
}

// times returns a * b.
func times(a, b []int) []int {
	product := make([]int, len(a)+len(b))
	for i, x := range a {
		carry := 0
		for k, y := range b {
			product[i+k], carry = carried(product[i+k] + x*y + carry)
		}
		product[i+len(b)] = carry
	}
	return trim(product)
}

// divide returns the quotient of a and b, rounded down, and the remainder. b is not 0.
func divide(a, b []int) ([]int, []int) {
	switch {
	case len(a) < len(b):
		return nil, a
	case len(a) <= fitting:
		x, y := value(a), value(b)
		return split(x / y), split(x % y)
	case len(b) == 1:
		return divideShort(a, b[0])
	}
	return divideLong(a, b)
}

// divideShort divides by a single digit.
func divideShort(a []int, by int) ([]int, []int) {
	quotient := make([]int, len(a))
	rest := 0
	for i := len(a) - 1; i >= 0; i-- {
		part := rest*api.Base + a[i]
		quotient[i], rest = part/by, part%by
	}
	return trim(quotient), split(uint64(rest))
}

// divideLong divides by at least two digits, of which a has no fewer.
func divideLong(a, b []int) ([]int, []int) {
	rest := make([]int, len(a)+1)
	copy(rest, a)
	quotient := make([]int, len(a)-len(b)+1)
places:
	for i := len(quotient) - 1; i >= 0; i-- {
		part := rest[i : i+len(b)+1]
		q := guess(part, b)
		take(part, b, q)
		for {
			if part[len(b)] >= 0 {
				quotient[i] = q
				continue places
			}
			// The guess was too great.
			q--
			take(part, b, -1)
		}
	}
	return trim(quotient), trim(rest)
}

// guess returns the quotient of a part of the dividend and b, which is a digit, or a number that is greater by 1.
// The three and two most significant digits suffice for it: as those of b are at least Base, leaving out the others changes the quotient, which is less than Base, by less than 1.
func guess(part, b []int) int {
	n := len(b)
	high, low := top(part, n)
	q, _ := bits.Div64(high, low, place(b, n-1)*api.Base+place(b, n-2))
	return int(q)
}

// top returns the number, of two words, that consists of the three digits of a up to the one at last.
func top(a []int, last int) (uint64, uint64) {
	upper := place(a, last)*api.Base + place(a, last-1)
	high, low := bits.Mul64(upper, api.Base)
	low, carry := bits.Add64(low, place(a, last-2), 0)
	return high + carry, low
}

// place returns the digit at a place, which is 0 after the last digit.
func place(a []int, i int) uint64 {
	if i < len(a) {
		return uint64(a[i])
	}
	return 0
}

// take subtracts q * b from a part of the dividend, which has one place more than b. The last one becomes negative if q * b is greater.
func take(part, b []int, q int) {
	carry := 0
	for i, d := range b {
		part[i], carry = carried(part[i] - q*d + carry)
	}
	part[len(b)] += carry
}

// squareRoot returns the square root of a, rounded down.
// From any number that is not less, Newton's steps go down to it, and no further.
func squareRoot(a []int) []int {
	root := rootAbove(a)
	for len(root) > 0 {
		quotient, _ := divide(a, root)
		next, _ := divideShort(combine(1, root, 1, quotient), 2)
		if compare(next, root) >= 0 {
			break
		}
		root = next
	}
	return root
}

// rootAbove returns a number that is not less than the square root of a, and near to it: of a long one, about half of the digits are right.
func rootAbove(a []int) []int {
	if len(a) <= fitting {
		half := (bits.Len64(value(a)) + 1) / 2
		return split(1 << half)
	}
	places := (len(a) + 1) / 4
	root := combine(1, squareRoot(a[2*places:]), 1, []int{1})
	above := make([]int, places+len(root))
	copy(above[places:], root)
	return above
}
