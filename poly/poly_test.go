package poly

import (
	"slices"
	"testing"

	"mend/field"
)

// The field of four elements is too small for package field: what works here
// leans on what was handed in alone.
func timesInFour(a int, b int) int {
	products := [4][4]int{{0, 0, 0, 0}, {0, 1, 2, 3}, {0, 2, 3, 1}, {0, 3, 1, 2}}
	return products[a][b]
}

func xor(a int, b int) int { return a ^ b }

func TestFromRoots(t *testing.T) {
	for _, c := range []struct {
		roots []int
		want  []int
	}{
		{nil, []int{1}},
		{[]int{3}, []int{1, 3}},
		{[]int{0, 0}, []int{1, 0, 0}},
		{[]int{1, 2}, []int{1, 3, 2}},
		{[]int{1, 2, 3}, []int{1, 0, 0, 1}},
		{[]int{3, 3}, []int{1, 0, 2}},
	} {
		before := slices.Clone(c.roots)
		if got := Over(xor, timesInFour).FromRoots(c.roots); !slices.Equal(got, c.want) {
			t.Errorf("FromRoots(%v) = %v, want %v", before, got, c.want)
		}
		if !slices.Equal(c.roots, before) {
			t.Errorf("FromRoots(%v) changed its roots to %v", before, c.roots)
		}
	}
}

func TestRemainder(t *testing.T) {
	for _, c := range []struct {
		dividend, divisor []int
		want              []int
	}{
		{[]int{1, 0, 0, 1}, []int{1, 1}, []int{0}},
		{[]int{1, 0, 0, 0}, []int{1, 1}, []int{1}},
		{[]int{2, 3, 1}, []int{1, 3, 2}, []int{2, 2}},
		{[]int{0, 0, 3, 1}, []int{1, 3, 2}, []int{3, 1}},
		{[]int{3, 1}, []int{1, 3, 2}, []int{3, 1}},
		{[]int{3, 1, 2}, []int{1}, nil},
	} {
		dividend, divisor := slices.Clone(c.dividend), slices.Clone(c.divisor)
		got := Over(xor, timesInFour).Remainder(c.dividend, c.divisor)
		if !slices.Equal(got, c.want) {
			t.Errorf("Remainder(%v, %v) = %v, want %v", dividend, divisor, got, c.want)
		}
		for i := range got {
			got[i] = 9
		}
		if !slices.Equal(c.dividend, dividend) || !slices.Equal(c.divisor, divisor) {
			t.Errorf("Remainder(%v, %v) changed what it was handed, or answered a piece of it", dividend, divisor)
		}
	}
}

func TestTimesRoot(t *testing.T) {
	for _, c := range []struct {
		list []int
		root int
		want []int
	}{
		{[]int{1, 0}, 3, []int{1, 3}},
		{[]int{1, 0, 0, 0}, 2, []int{1, 2, 0, 0}},
		{[]int{1, 2, 0, 0}, 1, []int{1, 3, 2, 0}},
		{[]int{2, 3, 0}, 0, []int{2, 3, 0}},
	} {
		got := slices.Clone(c.list)
		if Over(xor, timesInFour).TimesRoot(got, c.root); !slices.Equal(got, c.want) {
			t.Errorf("TimesRoot(%v, %d) makes %v, want %v", c.list, c.root, got, c.want)
		}
	}
}

func TestAddMultiple(t *testing.T) {
	sum, terms := []int{1, 2, 3, 1}, []int{3, 0, 2}
	if Over(xor, timesInFour).AddMultiple(sum, 2, terms); !slices.Equal(sum, []int{0, 2, 0, 1}) {
		t.Errorf("the sum is %v", sum)
	}
	if !slices.Equal(terms, []int{3, 0, 2}) {
		t.Errorf("the terms are %v now", terms)
	}
}

func TestProductAt(t *testing.T) {
	ring := Over(xor, timesInFour)
	a, b := []int{1, 2, 3}, []int{2, 1}
	// (X^2 + 2X + 3)(2X + 1) = 2X^3 + (1 + 3)X^2 + (2 + 1)X + 3
	for place, want := range []int{2, 2, 3, 3, 0, 0} {
		if got := ring.ProductAt(a, b, place); got != want {
			t.Errorf("at %d: %d, want %d", place, got, want)
		}
		if got := ring.ProductAt(b, a, place); got != want {
			t.Errorf("at %d, the other way round: %d, want %d", place, got, want)
		}
	}
	if got := ring.ProductAt(nil, b, 0); got != 0 {
		t.Errorf("of no coefficients: %d", got)
	}
}

func TestValue(t *testing.T) {
	ring := Over(xor, timesInFour)
	for _, c := range []struct {
		polynomial []int
		want       [4]int // at each element
	}{
		{nil, [4]int{0, 0, 0, 0}},
		{[]int{3}, [4]int{3, 3, 3, 3}},
		{[]int{1, 2}, [4]int{2, 3, 0, 1}},
		{[]int{1, 0, 0, 1}, [4]int{1, 0, 0, 0}},
		{[]int{2, 0, 1}, [4]int{1, 3, 0, 2}},
	} {
		for at, want := range c.want {
			if got := ring.Value(c.polynomial, at); got != want {
				t.Errorf("Value(%v, %d) = %d, want %d", c.polynomial, at, got, want)
			}
		}
	}
}

// derivative is the polynomial's, coefficient by coefficient: an even number of
// the same ones is 0, an odd one is one of them.
func derivative(polynomial []int) []int {
	var of []int
	for i, coefficient := range polynomial[:len(polynomial)-1] {
		of = append(of, coefficient*((len(polynomial)-1-i)%2))
	}
	return of
}

func TestSlope(t *testing.T) {
	ring := Over(xor, timesInFour)
	for _, polynomial := range [][]int{{3}, {2, 1}, {1, 0, 0, 1}, {3, 1, 2, 2, 1}, {1, 2, 3, 1, 2, 3}} {
		for at := range 4 {
			want := ring.Value(derivative(polynomial), at)
			if got := ring.Slope(polynomial, at); got != want {
				t.Errorf("Slope(%v, %d) = %d, want %d", polynomial, at, got, want)
			}
		}
	}
	if got := ring.Slope(nil, 3); got != 0 {
		t.Errorf("of no coefficients: %d", got)
	}
}

// A remainder has the dividend's values at the divisor's roots, and is small
// enough that no other polynomial has.
func TestRemainderHasTheSameValuesAtTheRoots(t *testing.T) {
	f, err := field.New(5, 37)
	if err != nil {
		t.Fatal(err)
	}
	ring := Over(f.Plus, f.Times)
	roots := []int{0, 1, 2, 7, 30, 31}
	divisor := ring.FromRoots(roots)
	if len(divisor) != len(roots)+1 || divisor[0] != 1 {
		t.Errorf("FromRoots(%v) = %v", roots, divisor)
	}
	for at := range 32 {
		if (ring.Value(divisor, at) == 0) != slices.Contains(roots, at) {
			t.Errorf("FromRoots(%v) has the value %d at %d", roots, ring.Value(divisor, at), at)
		}
	}
	dividend := make([]int, 20)
	for i := range dividend {
		dividend[i] = (i*i + 5*i + 3) % 32
	}
	rest := ring.Remainder(dividend, divisor)
	if len(rest) != len(roots) {
		t.Errorf("%d coefficients are left, want %d", len(rest), len(roots))
	}
	for _, root := range roots {
		if ring.Value(rest, root) != ring.Value(dividend, root) {
			t.Errorf("at %d: %d, want %d", root, ring.Value(rest, root), ring.Value(dividend, root))
		}
	}
}
