package field

import (
	"errors"
	"math"
	"slices"
	"testing"
)

// primitives are all the primitive polynomials of each degree that a field may have.
var primitives = map[int][]int{
	3: {11, 13},
	4: {19, 25},
	5: {37, 41, 47, 55, 59, 61},
	6: {67, 91, 97, 103, 109, 115},
	7: {131, 137, 143, 145, 157, 167, 171, 185, 191, 193, 203, 211, 213, 229, 239, 241, 247, 253},
	8: {285, 299, 301, 333, 351, 355, 357, 361, 369, 391, 397, 425, 451, 463, 487, 501},
}

func TestNewTakesJustThePrimitiveModuli(t *testing.T) {
	for m, want := range primitives {
		for modulus := -1100; modulus <= 1100; modulus++ {
			f, err := New(m, modulus)
			if slices.Contains(want, modulus) {
				if f == nil || err != nil {
					t.Errorf("New(%d, %d): %v, want a field", m, modulus, err)
				}
			} else if f != nil || !errors.Is(err, ErrModulus) {
				t.Errorf("New(%d, %d): %v, want ErrModulus", m, modulus, err)
			}
		}
	}
}

func TestNewRefusesModuliFarOff(t *testing.T) {
	for m := range primitives {
		for _, modulus := range []int{math.MinInt, math.MinInt + 11, -1 << 32, 1<<32 + 11, math.MaxInt} {
			if f, err := New(m, modulus); f != nil || !errors.Is(err, ErrModulus) {
				t.Errorf("New(%d, %d): %v, want ErrModulus", m, modulus, err)
			}
		}
	}
}

func TestNewRefusesDegreesAheadOfModuli(t *testing.T) {
	for _, m := range []int{math.MinInt, -1, 0, 1, 2, 9, 10, 63, 64, 65, math.MaxInt} {
		for _, modulus := range []int{math.MinInt, -11, 0, 7, 11, 529, math.MaxInt} {
			if f, err := New(m, modulus); f != nil || !errors.Is(err, ErrDegree) {
				t.Errorf("New(%d, %d): %v, want ErrDegree", m, modulus, err)
			}
		}
	}
}

// everyField runs test on each of the fields.
func everyField(t *testing.T, test func(f *Field, m int, modulus int)) {
	for m, moduli := range primitives {
		for _, modulus := range moduli {
			f, err := New(m, modulus)
			if err != nil {
				t.Fatalf("New(%d, %d): %v", m, modulus, err)
			}
			test(f, m, modulus)
		}
	}
}

func TestCheckElement(t *testing.T) {
	everyField(t, func(f *Field, m int, modulus int) {
		for _, a := range []int{0, 1, 2, 1<<m - 1} {
			if err := f.CheckElement(a); err != nil {
				t.Errorf("m %d, modulus %d: CheckElement(%d): %v", m, modulus, a, err)
			}
		}
		for _, a := range []int{math.MinInt, -1, 1 << m, modulus, math.MaxInt} {
			if err := f.CheckElement(a); !errors.Is(err, ErrElement) {
				t.Errorf("m %d, modulus %d: CheckElement(%d): %v, want ErrElement", m, modulus, a, err)
			}
		}
	})
}

func TestCheckUnit(t *testing.T) {
	everyField(t, func(f *Field, m int, modulus int) {
		for _, a := range []int{1, 2, 1<<m - 1} {
			if err := f.CheckUnit(a); err != nil {
				t.Errorf("m %d, modulus %d: CheckUnit(%d): %v", m, modulus, a, err)
			}
		}
		if err := f.CheckUnit(0); !errors.Is(err, ErrZero) {
			t.Errorf("m %d, modulus %d: CheckUnit(0): %v, want ErrZero", m, modulus, err)
		}
		for _, a := range []int{math.MinInt, -1, 1 << m, math.MaxInt} {
			if err := f.CheckUnit(a); !errors.Is(err, ErrElement) {
				t.Errorf("m %d, modulus %d: CheckUnit(%d): %v, want ErrElement", m, modulus, a, err)
			}
		}
	})
}

func TestCheckBit(t *testing.T) {
	everyField(t, func(f *Field, m int, modulus int) {
		for _, a := range []int{0, 1} {
			if err := f.CheckBit(a); err != nil {
				t.Errorf("m %d, modulus %d: CheckBit(%d): %v", m, modulus, a, err)
			}
		}
		for _, a := range []int{math.MinInt, -1, 2, 3, 1<<m - 1, 1 << m, math.MaxInt} {
			if err := f.CheckBit(a); !errors.Is(err, ErrBit) {
				t.Errorf("m %d, modulus %d: CheckBit(%d): %v, want ErrBit", m, modulus, a, err)
			}
		}
	})
}

func TestPlus(t *testing.T) {
	everyField(t, func(f *Field, m int, modulus int) {
		for a := range 1 << m {
			for b := range 1 << m {
				if got := f.Plus(a, b); got != a^b {
					t.Errorf("m %d, modulus %d: Plus(%d, %d) = %d, want %d", m, modulus, a, b, got, a^b)
				}
			}
		}
	})
}

func TestPower(t *testing.T) {
	everyField(t, func(f *Field, m int, modulus int) {
		if got, want := f.Units(), 1<<m-1; got != want {
			t.Errorf("m %d, modulus %d: Units() = %d, want %d", m, modulus, got, want)
		}
		want := 1
		for i := range 3 << m {
			if got := f.Power(i); got != want {
				t.Errorf("m %d, modulus %d: Power(%d) = %d, want %d", m, modulus, i, got, want)
			}
			want = f.Times(want, 2)
		}
	})
}

// The laws below leave but one product: 1 and x as factors are told outright,
// and every other factor is reached from them by sums and by one x more.
func TestTimesKeepsTheLaws(t *testing.T) {
	everyField(t, func(f *Field, m int, modulus int) {
		for a := range 1 << m {
			shifted := a << 1
			if shifted>>m == 1 {
				shifted ^= modulus
			}
			if f.Times(a, 0) != 0 || f.Times(a, 1) != a || f.Times(a, 2) != shifted {
				t.Errorf("m %d, modulus %d: %d times 0, 1, x = %d, %d, %d", m, modulus, a, f.Times(a, 0), f.Times(a, 1), f.Times(a, 2))
			}
			for b := range 1 << m {
				product := f.Times(a, b)
				if product != f.Times(b, a) {
					t.Errorf("m %d, modulus %d: %d times %d hangs on their order", m, modulus, a, b)
				}
				if f.Times(a, f.Times(b, 2)) != f.Times(product, 2) {
					t.Errorf("m %d, modulus %d: %d times %d times x hangs on what is reckoned first", m, modulus, a, b)
				}
				if f.Times(a, b^1) != product^a {
					t.Errorf("m %d, modulus %d: %d times the sum of %d and 1 is not the sum of the products", m, modulus, a, b)
				}
			}
		}
	})
}

func TestInverse(t *testing.T) {
	everyField(t, func(f *Field, m int, modulus int) {
		for a := 1; a < 1<<m; a++ {
			inverse := f.Inverse(a)
			if f.CheckUnit(inverse) != nil || f.Times(a, inverse) != 1 {
				t.Errorf("m %d, modulus %d: Inverse(%d) = %d", m, modulus, a, inverse)
			}
		}
	})
}
