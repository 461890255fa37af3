package mend_test

import (
	"math"
	"testing"

	"mend/mend"
)

var farNumbers = []int{math.MinInt, math.MinInt + 1, -1 << 32, -1, 1 << 32, math.MaxInt - 1, math.MaxInt}

// wantK counts as the document does, number by number.
func wantK(p mend.Params) int {
	n := 1<<p.M - 1
	roots := map[int]int{}
	for j := p.First; j <= p.First+p.Delta-2; j++ {
		roots[j%n]++
		for i, double := 0, j; p.Binary && i < p.M; i++ {
			double = double * 2 % n
			roots[double]++
		}
	}
	return n - len(roots)
}

// wantNew is the sizes that a codec has, and the place that New tells if there is none.
func wantNew(p mend.Params) (word int, message int, place int) {
	if p.M < 3 || p.M > 8 {
		return 0, 0, 1
	}
	if !isField(p.M, p.Modulus) {
		return 0, 0, 2
	}
	n := 1<<p.M - 1
	if p.First < 0 || p.First >= n {
		return 0, 0, 3
	}
	if p.Delta < 2 || p.Delta > n || wantK(p) == 0 {
		return 0, 0, 4
	}
	if p.Short < 0 || p.Short >= wantK(p) {
		return 0, 0, 5
	}
	if p.Cut < 0 || p.Cut > p.Delta-2 {
		return 0, 0, 6
	}
	return n - p.Short - p.Cut, wantK(p) - p.Short, 0
}

func checkNew(t *testing.T, p mend.Params, wantWord int, wantMessage int, wantPlace int) {
	t.Helper()
	wantErrno := ok
	if wantPlace != 0 {
		wantErrno = errParams
	}
	codec, errno, place := mend.New(p)
	if (codec == nil) != (wantPlace != 0) || errno != wantErrno || place != wantPlace {
		t.Errorf("New(%+v): codec %t, %d at %d, want %d at %d", p, codec != nil, errno, place, wantErrno, wantPlace)
		return
	}
	if codec == nil {
		return
	}
	if word, message := codec.Size(); word != wantWord || message != wantMessage {
		t.Errorf("New(%+v): Size() = %d, %d, want %d, %d", p, word, message, wantWord, wantMessage)
	}
}

func checkNewAsTold(t *testing.T, p mend.Params) {
	t.Helper()
	word, message, place := wantNew(p)
	checkNew(t, p, word, message, place)
}

// P4, P5: every code of the smallest fields, and what lies around them.
func TestP4P5EverySmallCode(t *testing.T) {
	for _, f := range []struct{ m, modulus int }{{3, 11}, {3, 13}, {4, 19}} {
		n := 1<<f.m - 1
		for first := -2; first <= n+1; first++ {
			for delta := -1; delta <= n+2; delta++ {
				for short := -2; short <= n+1; short++ {
					for cut := -2; cut <= n+1; cut++ {
						checkNewAsTold(t, mend.Params{M: f.m, Modulus: f.modulus, First: first, Delta: delta, Short: short, Cut: cut})
						checkNewAsTold(t, mend.Params{M: f.m, Modulus: f.modulus, First: first, Delta: delta, Short: short, Cut: cut, Binary: true})
					}
				}
			}
		}
	}
}

// P4, P5: in each field, each parameter at its least and its greatest value and
// just outside.
func TestP4P5Edges(t *testing.T) {
	for m := 3; m <= 8; m++ {
		n := 1<<m - 1
		for _, binary := range []bool{false, true} {
			for _, first := range []int{-1, 0, 1, 2, n / 2, n - 1, n} {
				for _, delta := range []int{1, 2, 3, 4, 7, n / 2, n - 2, n - 1, n, n + 1} {
					p := mend.Params{M: m, Modulus: otherModulus[m], First: first, Delta: delta, Binary: binary}
					k := 1
					if _, message, place := wantNew(p); place == 0 {
						k = message
					}
					for _, p.Short = range []int{-1, 0, k / 2, k - 1, k, k + 1} {
						for _, p.Cut = range []int{-1, 0, 1, delta / 2, delta - 2, delta - 1, delta} {
							checkNewAsTold(t, p)
						}
					}
				}
			}
		}
	}
}

// P4: every modulus of each m, and everything that might pass for one.
func TestP4EveryModulus(t *testing.T) {
	for m := 0; m <= 10; m++ {
		for modulus := -40; modulus <= 1100; modulus++ {
			checkNewAsTold(t, mend.Params{M: m, Modulus: modulus, First: 1, Delta: 3})
			checkNewAsTold(t, mend.Params{M: m, Modulus: modulus, First: 1, Delta: 3, Binary: true})
		}
	}
}

// P4, P5: sizes and places, written out.
func TestP4P5New(t *testing.T) {
	for _, c := range []struct {
		p                    mend.Params
		word, message, place int
	}{
		{mend.Params{M: 3, Modulus: 11, First: 0, Delta: 2}, 7, 6, 0},
		{mend.Params{M: 3, Modulus: 11, First: 0, Delta: 2, Binary: true}, 7, 6, 0},
		{mend.Params{M: 3, Modulus: 11, First: 1, Delta: 2, Binary: true}, 7, 4, 0},
		{mend.Params{M: 3, Modulus: 11, First: 6, Delta: 3}, 7, 5, 0},               // roots 6 and 0
		{mend.Params{M: 3, Modulus: 11, First: 6, Delta: 3, Binary: true}, 7, 3, 0}, // 6, 5, 3 and 0
		{mend.Params{M: 3, Modulus: 11, First: 6, Delta: 7}, 7, 1, 0},
		{mend.Params{M: 3, Modulus: 11, First: 1, Delta: 7, Cut: 5}, 2, 1, 0}, // the shortest word that there is
		{mend.Params{M: 3, Modulus: 11, First: 1, Delta: 3, Short: 4, Cut: 1}, 2, 1, 0},
		{mend.Params{M: 3, Modulus: 11, First: 0, Delta: 4, Binary: true}, 7, 3, 0},
		{mend.Params{M: 3, Modulus: 11, First: 0, Delta: 5, Binary: true}, 0, 0, 4},
		{mend.Params{M: 4, Modulus: 19, First: 1, Delta: 15, Binary: true}, 15, 1, 0},
		{mend.Params{M: 4, Modulus: 19, First: 2, Delta: 14, Binary: true}, 15, 1, 0},
		{mend.Params{M: 4, Modulus: 19, First: 2, Delta: 15, Binary: true}, 0, 0, 4}, // root 15, which is 0
		{mend.Params{M: 4, Modulus: 19, First: 2, Delta: 15}, 15, 1, 0},
		{mend.Params{M: 4, Modulus: 19, First: 2, Delta: 16}, 0, 0, 4},
		{mend.Params{M: 4, Modulus: 19, First: 5, Delta: 2, Short: 12, Binary: true}, 3, 1, 0}, // roots 5 and 10
		{mend.Params{M: 4, Modulus: 19, First: 5, Delta: 2, Short: 13, Binary: true}, 0, 0, 5},
		{mend.Params{M: 8, Modulus: 285, First: 254, Delta: 255}, 255, 1, 0},
		{mend.Params{M: 8, Modulus: 285, First: 254, Delta: 255, Cut: 253}, 2, 1, 0},
		{mend.Params{M: 8, Modulus: 285, First: 254, Delta: 255, Cut: 254}, 0, 0, 6},
		{mend.Params{M: 8, Modulus: 285, First: 255, Delta: 255}, 0, 0, 3},
		{mend.Params{M: 8, Modulus: 285, First: 1, Delta: 5, Short: 238, Cut: 3, Binary: true}, 14, 1, 0},
		{mend.Params{M: 8, Modulus: 285, First: 1, Delta: 5, Short: 239, Cut: 3, Binary: true}, 0, 0, 5},
		{mend.Params{}, 0, 0, 1},
		{mend.Params{M: 9, Modulus: 529, First: 1, Delta: 3}, 0, 0, 1},
		{mend.Params{M: 3, Modulus: 19, First: 1, Delta: 3}, 0, 0, 2},
		{mend.Params{M: 8, Modulus: 283, First: 1, Delta: 3}, 0, 0, 2},
		{mend.Params{M: 3, Modulus: 11, First: -1, Delta: 3}, 0, 0, 3},
		{mend.Params{M: 3, Modulus: 11, First: 1, Delta: -3}, 0, 0, 4},
		{mend.Params{M: 3, Modulus: 11, First: 1, Delta: 2, Cut: 1}, 0, 0, 6},
	} {
		checkNew(t, c.p, c.word, c.message, c.place)
	}
}

// P1: no number is too great or too small for any parameter.
func TestP1AnyParams(t *testing.T) {
	good := mend.Params{M: 4, Modulus: 19, First: 14, Delta: 4, Short: 3, Cut: 2}
	for _, number := range farNumbers {
		for _, binary := range []bool{false, true} {
			for place := 1; place <= 6; place++ {
				p := good
				p.Binary = binary
				*[]*int{&p.M, &p.Modulus, &p.First, &p.Delta, &p.Short, &p.Cut}[place-1] = number
				checkNew(t, p, 0, 0, place)
			}
		}
	}
}

// P1, P4: of several wrong parameters the first one is told.
func TestP1FirstWrongParameter(t *testing.T) {
	good := [...]int{5, 37, 30, 7, 4, 5}
	for _, wrong := range append(farNumbers, 32) {
		for which := range 1 << 6 {
			numbers, want := good, 0
			for i := 5; i >= 0; i-- {
				if which>>i&1 == 1 {
					numbers[i], want = wrong, i+1
				}
			}
			p := mend.Params{M: numbers[0], Modulus: numbers[1], First: numbers[2], Delta: numbers[3], Short: numbers[4], Cut: numbers[5]}
			if want != 0 {
				checkNew(t, p, 0, 0, want)
			} else {
				checkNew(t, p, 22, 21, 0)
			}
		}
	}
	// A Delta that leaves no K, beside wrong parameters after it.
	checkNew(t, mend.Params{M: 3, Modulus: 11, First: 0, Delta: 5, Short: -1, Cut: -1, Binary: true}, 0, 0, 4)
	checkNew(t, mend.Params{M: 3, Modulus: 11, First: 0, Delta: 5, Short: 0, Cut: 9, Binary: true}, 0, 0, 4)
}

// P1: nor do calls panic through a pointer to a codec that New did not make.
func TestP1NoCodec(t *testing.T) {
	for _, codec := range []*mend.Codec{nil, {}} {
		if word, message := codec.Size(); word != 0 || message != 0 {
			t.Errorf("Size() = %d, %d", word, message)
		}
		for _, list := range [][]int{nil, {}, {0}, {1, 2, 3}} {
			checkEncode(t, codec, list, nil, errLength, 0)
			checkCheck(t, codec, list, false, errLength, 0)
			checkDecode(t, codec, list, nil, nil, nil, errLength, 0)
			checkDecode(t, codec, list, []int{-1}, nil, nil, errLength, 0)
		}
	}
}
