package poly

import (
	"slices"
	"testing"

	"mend/field"
)

// The field of four elements is too small for package field: what works here
// leans on what was handed in alone.
func timesInFour(a int, b int) int {
	products := [4][4]int{{0, 0, 0, 0}, {0, 1, 2, 3}, {0, 2, 3, 1}, {0, 3, 1, 2}}
	return products[a][b]
}

func xor(a int, b int) int { return a ^ b }

func TestFromRoots(t *testing.T) {
	for _, c := range []struct {
		roots []int
		want  []int
	}{
		{nil, []int{1}},
		{[]int{3}, []int{1, 3}},
		{[]int{0, 0}, []int{1, 0, 0}},
		{[]int{1, 2}, []int{1, 3, 2}},
		{[]int{1, 2, 3}, []int{1, 0, 0, 1}},
		{[]int{3, 3}, []int{1, 0, 2}},
	} {
		before := slices.Clone(c.roots)
		if got := Over(xor, timesInFour).FromRoots(c.roots); !slices.Equal(got, c.want) {
			t.Errorf("FromRoots(%v) = %v, want %v", before, got, c.want)
		}
		if !slices.Equal(c.roots, before) {
			t.Errorf("FromRoots(%v) changed its roots to %v", before, c.roots)
		}
	}
}

func TestRemainder(t *testing.T) {
	for _, c := range []struct {
		dividend, divisor []int
		want              []int
	}{
		{[]int{1, 0, 0, 1}, []int{1, 1}, []int{0}},
		{[]int{1, 0, 0, 0}, []int{1, 1}, []int{1}},
		{[]int{2, 3, 1}, []int{1, 3, 2}, []int{2, 2}},
		{[]int{0, 0, 3, 1}, []int{1, 3, 2}, []int{3, 1}},
		{[]int{3, 1}, []int{1, 3, 2}, []int{3, 1}},
		{[]int{3, 1, 2}, []int{1}, nil},
	} {
		dividend, divisor := slices.Clone(c.dividend), slices.Clone(c.divisor)
		got := Over(xor, timesInFour).Remainder(c.dividend, c.divisor)
		if !slices.Equal(got, c.want) {
			t.Errorf("Remainder(%v, %v) = %v, want %v", dividend, divisor, got, c.want)
		}
		for i := range got {
			got[i] = 9
		}
		if !slices.Equal(c.dividend, dividend) || !slices.Equal(c.divisor, divisor) {
			t.Errorf("Remainder(%v, %v) changed what it was handed, or answered a piece of it", dividend, divisor)
		}
	}
}

// value is the polynomial's at one element.
func value(f *field.Field, polynomial []int, at int) int {
	sum := 0
	for _, coefficient := range polynomial {
		sum = f.Plus(f.Times(sum, at), coefficient)
	}
	return sum
}

// A remainder has the dividend's values at the divisor's roots, and is small
// enough that no other polynomial has.
func TestRemainderHasTheSameValuesAtTheRoots(t *testing.T) {
	f, err := field.New(5, 37)
	if err != nil {
		t.Fatal(err)
	}
	ring := Over(f.Plus, f.Times)
	roots := []int{0, 1, 2, 7, 30, 31}
	divisor := ring.FromRoots(roots)
	if len(divisor) != len(roots)+1 || divisor[0] != 1 {
		t.Errorf("FromRoots(%v) = %v", roots, divisor)
	}
	for at := range 32 {
		if (value(f, divisor, at) == 0) != slices.Contains(roots, at) {
			t.Errorf("FromRoots(%v) has the value %d at %d", roots, value(f, divisor, at), at)
		}
	}
	dividend := make([]int, 20)
	for i := range dividend {
		dividend[i] = (i*i + 5*i + 3) % 32
	}
	rest := ring.Remainder(dividend, divisor)
	if len(rest) != len(roots) {
		t.Errorf("%d coefficients are left, want %d", len(rest), len(roots))
	}
	for _, root := range roots {
		if value(f, rest, root) != value(f, dividend, root) {
			t.Errorf("at %d: %d, want %d", root, value(f, rest, root), value(f, dividend, root))
		}
	}
}
