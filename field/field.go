// Package field reckons in the fields of 2^m elements, m from 3 to 8.
package field

import "errors"

// What New and the checks of a Field refuse.
var (
	ErrDegree  = errors.New("field: m is not from 3 to 8")
	ErrModulus = errors.New("field: the modulus has another highest bit or is not primitive")
	ErrElement = errors.New("field: no element")
	ErrBit     = errors.New("field: neither 0 nor 1")
	ErrZero    = errors.New("field: 0 has no inverse")
)

const (
	leastDegree    = 3
	greatestDegree = 8
)

// Field is one field. Make it by New.
type Field struct {
	n      int   // how many elements there are but 0
	powers []int // at i from 0 to n-1: x^i
	logs   []int // at an element but 0: its i
}

// New makes the field of that m and that modulus.
func New(m int, modulus int) (*Field, error) {
	if m < leastDegree || m > greatestDegree {
		return nil, ErrDegree
	}
	if modulus>>m != 1 {
		return nil, ErrModulus
	}
	n := 1<<m - 1
	f := &Field{n: n, powers: make([]int, n), logs: make([]int, n+1)}
	if !f.fillPowers(m, modulus) {
		return nil, ErrModulus
	}
	return f, nil
}

// fillPowers tells whether the modulus is primitive. The powers of x, which
// settle that, are the very tables that the arithmetic needs, so one walk does
// both.
func (f *Field) fillPowers(m int, modulus int) bool {
	power := 1
	for i := range f.n {
		if i > 0 && power == 1 {
			return false
		}
		f.powers[i] = power
		f.logs[power] = i
		power = timesX(power, m, modulus)
	}
	return power == 1
}

func timesX(a int, m int, modulus int) int {
	a <<= 1
	if a>>m == 1 {
		a ^= modulus
	}
	return a
}

// CheckElement answers ErrElement, if a is no element.
func (f *Field) CheckElement(a int) error {
	if a < 0 || a > f.n {
		return ErrElement
	}
	return nil
}

// CheckUnit answers ErrElement, if a is no element, and ErrZero, if it is 0.
func (f *Field) CheckUnit(a int) error {
	if a == 0 {
		return ErrZero
	}
	return f.CheckElement(a)
}

// CheckBit answers ErrBit, if a is neither 0 nor 1: these two are a field of
// their own within each field.
func (f *Field) CheckBit(a int) error {
	if a != 0 && a != 1 {
		return ErrBit
	}
	return nil
}

// Units is n: how many elements there are but 0, and how many powers of x.
func (f *Field) Units() int { return f.n }

// Power is x^i, for an i that is not below 0.
func (f *Field) Power(i int) int { return f.powers[i%f.n] }

// Plus is the sum of two elements, and as each one is its own negative, what is
// left of one less the other too. It does not check them: CheckElement does.
func (f *Field) Plus(a int, b int) int { return a ^ b }

// Times is the product of two elements. It does not check them, so that the
// many products of one call need not pay for that: CheckElement does.
func (f *Field) Times(a int, b int) int {
	if a == 0 || b == 0 {
		return 0
	}
	return f.powers[(f.logs[a]+f.logs[b])%f.n]
}

// Inverse is the element whose product with a is 1. It does not check a:
// CheckUnit does.
func (f *Field) Inverse(a int) int {
	return f.powers[(f.n-f.logs[a])%f.n]
}
