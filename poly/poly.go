// Package poly works with polynomials over a field. A polynomial is the list of
// its coefficients, that of the highest power first: so stand the symbols of a word.
package poly

import "slices"

// Ring works with the polynomials over one field, of which it knows no more
// than what Over was handed.
type Ring struct {
	plus  func(a int, b int) int
	times func(a int, b int) int
}

// Over is the ring over the field with that sum and that product. Its 0 and 1
// must be the numbers 0 and 1, and each element its own negative.
func Over(plus func(int, int) int, times func(int, int) int) Ring {
	return Ring{plus: plus, times: times}
}

// FromRoots is the product of X less each of the roots.
func (r Ring) FromRoots(roots []int) []int {
	product := make([]int, len(roots)+1)
	product[0] = 1
	for _, root := range roots {
		r.TimesRoot(product, root)
	}
	return product
}

// TimesRoot multiplies the polynomial at the beginning of a list by X less root.
// The product has one coefficient more, so there must be a 0 behind those of the
// polynomial, and no other number but 0.
func (r Ring) TimesRoot(list []int, root int) {
	// From the end on, so that each coefficient is read ahead of its change.
	for i := len(list) - 1; i > 0; i-- {
		list[i] = r.plus(list[i], r.times(list[i-1], root))
	}
}

// Remainder is what is left of the dividend when it is divided by a divisor
// whose first coefficient is 1: a new list, with one coefficient less than the
// divisor, if the dividend has no fewer.
func (r Ring) Remainder(dividend []int, divisor []int) []int {
	rest := slices.Clone(dividend)
	for len(rest) >= len(divisor) {
		r.AddMultiple(rest, rest[0], divisor)
		rest = rest[1:]
	}
	return rest
}

// AddMultiple adds factor times terms to the first ones of sum.
func (r Ring) AddMultiple(sum []int, factor int, terms []int) {
	for i, term := range terms {
		sum[i] = r.plus(sum[i], r.times(factor, term))
	}
}

// ProductAt is the coefficient at one place, from 0 on, of the product of two
// polynomials.
func (r Ring) ProductAt(a []int, b []int, place int) int {
	sum := 0
	for i := max(0, place-len(b)+1); i <= min(place, len(a)-1); i++ {
		sum = r.plus(sum, r.times(a[i], b[place-i]))
	}
	return sum
}

// Value is the polynomial's at an element.
func (r Ring) Value(polynomial []int, at int) int {
	value := 0
	for _, coefficient := range polynomial {
		value = r.plus(r.times(value, at), coefficient)
	}
	return value
}

// Slope is the value of the polynomial's derivative at an element. It is had by
// the rule for products at each step of Value, so no coefficient need be taken
// so and so many times.
func (r Ring) Slope(polynomial []int, at int) int {
	value, slope := 0, 0
	for _, coefficient := range polynomial {
		slope = r.plus(r.times(slope, at), value)
		value = r.plus(r.times(value, at), coefficient)
	}
	return slope
}
