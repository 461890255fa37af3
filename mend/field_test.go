package mend_test

import (
	"math"
	"slices"
	"testing"

	"mend/mend"
)

const (
	ok        = mend.OK
	errParams = mend.ErrParams
	errSymbol = mend.ErrSymbol
)

// oneModulus and otherModulus have a modulus for each m, so that answers of two
// fields of one m can be held against each other.
var (
	oneModulus   = map[int]int{3: 11, 4: 19, 5: 37, 6: 67, 7: 131, 8: 285}
	otherModulus = map[int]int{3: 13, 4: 25, 5: 61, 6: 115, 7: 253, 8: 501}
)

// remainder divides polynomials as the document says it, bit by bit: the tests
// hold the program's tables against it.
func remainder(polynomial int, m int, modulus int) int {
	for bit := 2 * m; bit >= m; bit-- {
		if polynomial>>bit&1 == 1 {
			polynomial ^= modulus << (bit - m)
		}
	}
	return polynomial
}

func product(m int, modulus int, a int, b int) int {
	sum := 0
	for bit := range m {
		if b>>bit&1 == 1 {
			sum ^= a << bit
		}
	}
	return remainder(sum, m, modulus)
}

// isField tells whether there is a field of that m and that modulus.
func isField(m int, modulus int) bool {
	if m < 3 || m > 8 || modulus < 1<<m || modulus >= 2<<m {
		return false
	}
	power, count := product(m, modulus, 1, 2), 1
	for power != 1 && count < 1<<m {
		power, count = product(m, modulus, power, 2), count+1
	}
	return power == 1 && count == 1<<m-1
}

func isElement(m int, a int) bool { return a >= 0 && a < 1<<m }

func wantTimes(m int, modulus int, a int, b int) (int, mend.Errno) {
	switch {
	case !isField(m, modulus):
		return 0, errParams
	case !isElement(m, a) || !isElement(m, b):
		return 0, errSymbol
	}
	return product(m, modulus, a, b), ok
}

func wantInverse(m int, modulus int, a int) (int, mend.Errno) {
	switch {
	case !isField(m, modulus):
		return 0, errParams
	case !isElement(m, a) || a == 0:
		return 0, errSymbol
	}
	inverse := 1
	for product(m, modulus, a, inverse) != 1 {
		inverse++
	}
	return inverse, ok
}

func checkTimes(t *testing.T, m int, modulus int, a int, b int, want int, wantErrno mend.Errno) {
	t.Helper()
	if got, errno := mend.Times(m, modulus, a, b); got != want || errno != wantErrno {
		t.Errorf("Times(%d, %d, %d, %d) = %d %d, want %d %d", m, modulus, a, b, got, errno, want, wantErrno)
	}
}

func checkInverse(t *testing.T, m int, modulus int, a int, want int, wantErrno mend.Errno) {
	t.Helper()
	if got, errno := mend.Inverse(m, modulus, a); got != want || errno != wantErrno {
		t.Errorf("Inverse(%d, %d, %d) = %d %d, want %d %d", m, modulus, a, got, errno, want, wantErrno)
	}
}

// P1: no number is too great or too small, and an error stands beside 0.
func TestP1AnyNumbers(t *testing.T) {
	numbers := []int{math.MinInt, math.MinInt + 1, -1 << 32, -11, -1, 0, 1, 2, 3, 4, 7, 8, 9, 11, 19, 63, 64, 255, 256, 285, 1 << 32, math.MaxInt - 1, math.MaxInt}
	for _, m := range numbers {
		for _, modulus := range numbers {
			for _, a := range numbers {
				inverse, errno := wantInverse(m, modulus, a)
				checkInverse(t, m, modulus, a, inverse, errno)
				for _, b := range numbers {
					product, errno := wantTimes(m, modulus, a, b)
					checkTimes(t, m, modulus, a, b, product, errno)
				}
			}
		}
	}
}

// P1: of several errors the one that is named first is answered.
func TestP1FirstError(t *testing.T) {
	for _, c := range []struct {
		m, modulus, a, b int
		want             mend.Errno
	}{
		{2, 11, 1, 1, errParams},
		{2, -1, 8, -1, errParams},
		{9, 15, -1, 512, errParams},
		{3, 15, 8, 1, errParams},
		{3, 15, 1, 8, errParams},
		{3, -11, -1, -1, errParams},
		{3, 19, 0, 8, errParams},
		{3, 11, 8, -1, errSymbol},
		{3, 11, -1, 8, errSymbol},
	} {
		checkTimes(t, c.m, c.modulus, c.a, c.b, 0, c.want)
	}
	for _, c := range []struct {
		m, modulus, a int
		want          mend.Errno
	}{
		{2, 7, 0, errParams},
		{9, 529, -1, errParams},
		{3, 15, 0, errParams},
		{3, 15, 8, errParams},
		{3, -11, -1, errParams},
		{8, 256, 256, errParams},
	} {
		checkInverse(t, c.m, c.modulus, c.a, 0, c.want)
	}
}

// P2: a call answers the same whatever calls went ahead of it.
func TestP2ArgumentsAlone(t *testing.T) {
	type call struct{ m, modulus, a, b int }
	var calls []call
	for m := 3; m <= 8; m++ {
		for _, modulus := range []int{oneModulus[m], otherModulus[m], 1 << m, -oneModulus[m]} {
			for _, a := range []int{0, 1, 2, 5, 1<<m - 1, 1 << m, -1} {
				calls = append(calls, call{m, modulus, a, 6})
			}
		}
	}
	there := slices.Clone(calls)
	slices.Reverse(calls)
	for _, c := range slices.Concat(there, calls, there) {
		want, errno := wantTimes(c.m, c.modulus, c.a, c.b)
		checkTimes(t, c.m, c.modulus, c.a, c.b, want, errno)
		want, errno = wantInverse(c.m, c.modulus, c.a)
		checkInverse(t, c.m, c.modulus, c.a, want, errno)
	}
}

// P2: nor do calls that run at the same time touch each other.
func TestP2CallsAtTheSameTime(t *testing.T) {
	for m := 3; m <= 8; m++ {
		for _, modulus := range []int{oneModulus[m], otherModulus[m]} {
			t.Run("", func(t *testing.T) {
				t.Parallel()
				for a := range 1 << m {
					want, errno := wantTimes(m, modulus, a, 5)
					checkTimes(t, m, modulus, a, 5, want, errno)
					want, errno = wantInverse(m, modulus, a)
					checkInverse(t, m, modulus, a, want, errno)
				}
			})
		}
	}
}

// P3: each product and each inverse of two fields of each m.
func TestP3EveryElement(t *testing.T) {
	for m := 3; m <= 8; m++ {
		for _, modulus := range []int{oneModulus[m], otherModulus[m]} {
			for a := range 1 << m {
				inverse, errno := wantInverse(m, modulus, a)
				checkInverse(t, m, modulus, a, inverse, errno)
				for b := range 1 << m {
					checkTimes(t, m, modulus, a, b, product(m, modulus, a, b), ok)
				}
			}
		}
	}
}

// P3: each number that could pass for a modulus, and how many there are.
func TestP3EveryModulus(t *testing.T) {
	count := map[int]int{3: 2, 4: 2, 5: 6, 6: 6, 7: 18, 8: 16}
	for m := range 12 {
		accepted := 0
		for modulus := -1100; modulus <= 4200; modulus++ {
			want, errno := wantTimes(m, modulus, 6, 7)
			checkTimes(t, m, modulus, 6, 7, want, errno)
			want, errno = wantInverse(m, modulus, 6)
			checkInverse(t, m, modulus, 6, want, errno)
			if errno == ok {
				accepted++
			}
		}
		if accepted != count[m] {
			t.Errorf("m %d: %d moduli, want %d", m, accepted, count[m])
		}
	}
}

// P3: products and wrong factors, written out.
func TestP3Times(t *testing.T) {
	for _, c := range []struct {
		m, modulus, a, b int
		want             int
		errno            mend.Errno
	}{
		{3, 11, 4, 2, 3, ok},     // x^3 = x + 1
		{3, 13, 4, 2, 5, ok},     // x^3 = x^2 + 1
		{8, 285, 128, 2, 29, ok}, // x^8 = x^4 + x^3 + x^2 + 1
		{3, 11, 7, 7, 3, ok},     // x^4 + x^2 + 1 = x + 1
		{3, 11, 3, 3, 5, ok},     // no carry: x^2 + 1
		{3, 11, 7, 1, 7, ok},
		{3, 11, 0, 7, 0, ok},
		{3, 11, 7, 0, 0, ok},
		{3, 11, 0, 0, 0, ok},
		{3, 11, 8, 1, 0, errSymbol}, // one above the greatest
		{3, 11, 1, 8, 0, errSymbol},
		{3, 11, 8, 0, 0, errSymbol},
		{3, 11, 0, 8, 0, errSymbol},
		{3, 11, -1, 1, 0, errSymbol},
		{3, 11, 0, -1, 0, errSymbol},
		{8, 285, 255, 1, 255, ok},
		{8, 285, 256, 1, 0, errSymbol},
		{2, 7, 1, 1, 0, errParams},   // primitive, but m is too small
		{9, 529, 1, 1, 0, errParams}, // primitive, but m is too great
		{3, 7, 1, 1, 0, errParams},   // highest bit 2
		{3, 19, 1, 1, 0, errParams},  // highest bit 4
		{3, 0, 1, 1, 0, errParams},
		{3, -11, 1, 1, 0, errParams},
		{3, 8, 1, 1, 0, errParams},   // a power of x is 0
		{3, 9, 1, 1, 0, errParams},   // x^3 = 1
		{3, 10, 1, 1, 0, errParams},  // no power of x is 1
		{3, 15, 1, 1, 0, errParams},  // x^4 = 1
		{4, 31, 1, 1, 0, errParams},  // no product of others, yet x^5 = 1
		{8, 283, 1, 1, 0, errParams}, // no product of others, yet x^51 = 1
		{8, 1<<32 + 285, 1, 1, 0, errParams},
	} {
		checkTimes(t, c.m, c.modulus, c.a, c.b, c.want, c.errno)
	}
}

// P3: inverses and wrong elements, written out.
func TestP3Inverse(t *testing.T) {
	for _, c := range []struct {
		m, modulus, a int
		want          int
		errno         mend.Errno
	}{
		{3, 11, 1, 1, ok},
		{3, 11, 2, 5, ok},
		{3, 11, 5, 2, ok},
		{3, 11, 7, 4, ok},
		{3, 13, 2, 6, ok},
		{8, 285, 2, 142, ok},
		{8, 285, 142, 2, ok},
		{3, 11, 0, 0, errSymbol},
		{8, 285, 0, 0, errSymbol},
		{3, 11, 8, 0, errSymbol},
		{8, 285, 256, 0, errSymbol},
		{3, 11, -1, 0, errSymbol},
		{2, 7, 1, 0, errParams},
		{9, 529, 1, 0, errParams},
		{3, 19, 1, 0, errParams},
		{3, 15, 1, 0, errParams},
		{4, 31, 1, 0, errParams},
		{3, -11, 1, 0, errParams},
	} {
		checkInverse(t, c.m, c.modulus, c.a, c.want, c.errno)
	}
}
