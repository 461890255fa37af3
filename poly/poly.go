// Package poly works with polynomials over a field. A polynomial is the list of
// its coefficients, that of the highest power first: so stand the symbols of a word.
package poly

import "slices"

// Ring works with the polynomials over one field, of which it knows no more
// than what Over was handed.
type Ring struct {
	plus  func(a int, b int) int
	times func(a int, b int) int
}

// Over is the ring over the field with that sum and that product. Its 0 and 1
// must be the numbers 0 and 1, and each element its own negative.
func Over(plus func(int, int) int, times func(int, int) int) Ring {
	return Ring{plus: plus, times: times}
}

// FromRoots is the product of X less each of the roots.
func (r Ring) FromRoots(roots []int) []int {
	product := make([]int, 1, len(roots)+1)
	product[0] = 1
	for _, root := range roots {
		product = append(product, 0)
		// From the end on, so that each coefficient is read ahead of its change.
		for i := len(product) - 1; i > 0; i-- {
			product[i] = r.plus(product[i], r.times(product[i-1], root))
		}
	}
	return product
}

// Remainder is what is left of the dividend when it is divided by a divisor
// whose first coefficient is 1: a new list, with one coefficient less than the
// divisor, if the dividend has no fewer.
func (r Ring) Remainder(dividend []int, divisor []int) []int {
	rest := slices.Clone(dividend)
	for len(rest) >= len(divisor) {
		r.addMultiple(rest, rest[0], divisor)
		rest = rest[1:]
	}
	return rest
}

// addMultiple adds factor times terms to the first ones of sum.
func (r Ring) addMultiple(sum []int, factor int, terms []int) {
	for i, term := range terms {
		sum[i] = r.plus(sum[i], r.times(factor, term))
	}
}
