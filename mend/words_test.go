package mend_test

import (
	"math"
	"slices"
	"testing"

	"mend/mend"
)

const errLength = mend.ErrLength

func newCodec(t *testing.T, p mend.Params) *mend.Codec {
	t.Helper()
	codec, errno, place := mend.New(p)
	if codec == nil {
		t.Fatalf("New(%+v): no codec, %d at %d", p, errno, place)
	}
	return codec
}

func checkEncode(t *testing.T, codec *mend.Codec, message []int, want []int, wantErrno mend.Errno, wantPlace int) {
	t.Helper()
	got, errno, place := codec.Encode(message)
	if !slices.Equal(got, want) || errno != wantErrno || place != wantPlace {
		t.Errorf("Encode(%v) = %v, %d at %d, want %v, %d at %d", message, got, errno, place, want, wantErrno, wantPlace)
	}
}

func checkCheck(t *testing.T, codec *mend.Codec, word []int, want bool, wantErrno mend.Errno, wantPlace int) {
	t.Helper()
	got, errno, place := codec.Check(word)
	if got != want || errno != wantErrno || place != wantPlace {
		t.Errorf("Check(%v) = %t, %d at %d, want %t, %d at %d", word, got, errno, place, want, wantErrno, wantPlace)
	}
}

// isFull tells whether the sums that the document names are 0.
func isFull(p mend.Params, full []int) bool {
	n := 1<<p.M - 1
	powers := make([]int, n)
	powers[0] = 1
	for i := 1; i < n; i++ {
		powers[i] = product(p.M, p.Modulus, powers[i-1], 2)
	}
	for j := p.First; j <= p.First+p.Delta-2; j++ {
		sum := 0
		for i, symbol := range full {
			sum ^= product(p.M, p.Modulus, symbol, powers[j*(n-1-i)%n])
		}
		if sum != 0 {
			return false
		}
	}
	return true
}

// symbolsOf is how many symbols a code has.
func symbolsOf(p mend.Params) int {
	if p.Binary {
		return 2
	}
	return 1 << p.M
}

// someMessages are lists of symbols: all the same, one alone at each place, and
// some of all sorts.
func someMessages(size int, symbols int) [][]int {
	messages := [][]int{slices.Repeat([]int{0}, size), slices.Repeat([]int{1}, size), slices.Repeat([]int{symbols - 1}, size)}
	for place := range size {
		single := make([]int, size)
		single[place] = 1 + place%(symbols-1)
		messages = append(messages, single)
	}
	state := 1
	for range 4 {
		mixed := make([]int, size)
		for i := range mixed {
			state = (state*75 + 74) % 65537
			mixed[i] = state >> 3 % symbols
		}
		messages = append(messages, mixed)
	}
	return messages
}

// checkFullCode holds the words of a code that leaves nothing out against the
// sums: as a message begins just one full word, no other answer passes.
func checkFullCode(t *testing.T, p mend.Params, messages [][]int) {
	t.Helper()
	codec := newCodec(t, p)
	for _, message := range messages {
		word, errno, place := codec.Encode(message)
		if len(word) != 1<<p.M-1 || errno != ok || place != 0 {
			t.Fatalf("%+v: Encode(%v) = %v, %d at %d", p, message, word, errno, place)
		}
		if !slices.Equal(word[:len(message)], message) || !isFull(p, word) || slices.Max(word) >= symbolsOf(p) {
			t.Errorf("%+v: Encode(%v) = %v, which is no full word of it", p, message, word)
		}
		checkCheck(t, codec, word, true, ok, 0)
	}
}

// checkLessCode holds the words of a code that leaves out zeros and an end
// against those of the code that leaves out nothing.
func checkLessCode(t *testing.T, p mend.Params) {
	t.Helper()
	less := newCodec(t, p)
	whole := p
	whole.Short, whole.Cut = 0, 0
	full := newCodec(t, whole)
	_, size := less.Size()
	for _, message := range someMessages(size, symbolsOf(p)) {
		word, errno, _ := full.Encode(slices.Concat(make([]int, p.Short), message))
		if errno != ok {
			t.Fatalf("%+v: Encode answers %d", whole, errno)
		}
		want := word[p.Short : len(word)-p.Cut]
		checkEncode(t, less, message, want, ok, 0)
		checkCheck(t, less, want, true, ok, 0)
	}
}

// P6, P7: every code of the smallest field.
func TestP6P7EverySmallCode(t *testing.T) {
	for _, modulus := range []int{11, 13} {
		for _, binary := range []bool{false, true} {
			for first := range 7 {
				for delta := 2; delta <= 7; delta++ {
					p := mend.Params{M: 3, Modulus: modulus, First: first, Delta: delta, Binary: binary}
					if wantK(p) == 0 {
						continue
					}
					checkFullCode(t, p, someMessages(wantK(p), symbolsOf(p)))
					for p.Short = range wantK(p) {
						for p.Cut = range delta - 1 {
							checkLessCode(t, p)
						}
					}
				}
			}
		}
	}
}

// P6, P7: codes of each field, First at 0, at n - 1 and between, with the least
// and the greatest Delta and one between.
func TestP6P7CodesOfEachField(t *testing.T) {
	for m := 3; m <= 8; m++ {
		n := 1<<m - 1
		for _, binary := range []bool{false, true} {
			for _, first := range []int{0, 1, n / 2, n - 1} {
				for _, delta := range []int{2, 5, n} {
					p := mend.Params{M: m, Modulus: oneModulus[m], First: first, Delta: delta, Binary: binary}
					k := wantK(p)
					if k == 0 {
						continue
					}
					messages := someMessages(k, symbolsOf(p))
					checkFullCode(t, p, messages[max(0, len(messages)-12):])
					p.Short, p.Cut = k/2, delta/2-1
					checkLessCode(t, p)
					p.Short, p.Cut = k-1, delta-2
					checkLessCode(t, p)
				}
			}
		}
	}
}

// fullWords are all the full words of a code, found by trying every list.
func fullWords(p mend.Params) [][]int {
	var found [][]int
	eachList(1<<p.M-1, symbolsOf(p), func(list []int) {
		if isFull(p, list) {
			found = append(found, slices.Clone(list))
		}
	})
	return found
}

// eachList runs do on each list of so many of the symbols.
func eachList(size int, symbols int, do func([]int)) {
	count := 1
	for range size {
		count *= symbols
	}
	list := make([]int, size)
	for number := range count {
		for i := range list {
			list[i] = number % symbols
			number /= symbols
		}
		do(list)
	}
}

// isWord tells whether a full word of the code is word between what it leaves out.
func isWord(p mend.Params, full [][]int, word []int) bool {
	return slices.ContainsFunc(full, func(f []int) bool {
		return !slices.ContainsFunc(f[:p.Short], func(symbol int) bool { return symbol != 0 }) &&
			slices.Equal(f[p.Short:len(f)-p.Cut], word)
	})
}

// P7: every list there is, of every Binary code of the smallest field.
func TestP7EveryListOfBits(t *testing.T) {
	for first := range 7 {
		for delta := 2; delta <= 7; delta++ {
			p := mend.Params{M: 3, Modulus: 11, First: first, Delta: delta, Binary: true}
			if wantK(p) == 0 {
				continue
			}
			full := fullWords(p)
			for p.Short = range wantK(p) {
				for p.Cut = range delta - 1 {
					codec := newCodec(t, p)
					eachList(7-p.Short-p.Cut, 2, func(list []int) {
						checkCheck(t, codec, list, isWord(p, full, list), ok, 0)
					})
				}
			}
		}
	}
}

// P7: likewise of greater symbols, where shortened and cut codes leave not too
// many lists.
func TestP7EveryListOfElements(t *testing.T) {
	for _, p := range []mend.Params{
		{M: 3, Modulus: 13, First: 6, Delta: 6, Short: 0, Cut: 4},
		{M: 3, Modulus: 13, First: 6, Delta: 6, Short: 1, Cut: 3},
		{M: 3, Modulus: 13, First: 6, Delta: 6, Short: 1, Cut: 2},
	} {
		codec, full := newCodec(t, p), fullElementWords(p)
		if len(full) != 8*8 {
			t.Fatalf("%+v: %d full words", p, len(full))
		}
		eachList(7-p.Short-p.Cut, 8, func(list []int) {
			checkCheck(t, codec, list, isWord(p, full, list), ok, 0)
		})
	}
}

// fullElementWords are the full words of a code with a K of 2 over the smallest
// field: these are the sums of two of them, each times an element, so that only
// the lists that begin with 1 0 and with 0 1 need be tried.
func fullElementWords(p mend.Params) [][]int {
	var one, other []int
	eachList(5, 8, func(list []int) {
		if first := slices.Concat([]int{1, 0}, list); isFull(p, first) {
			one = first
		}
		if second := slices.Concat([]int{0, 1}, list); isFull(p, second) {
			other = second
		}
	})
	var full [][]int
	for a := range 8 {
		for b := range 8 {
			word := make([]int, 7)
			for i := range word {
				word[i] = product(3, p.Modulus, a, one[i]) ^ product(3, p.Modulus, b, other[i])
			}
			full = append(full, word)
		}
	}
	return full
}

// P7: as Cut is below Delta - 1, one turned symbol makes no other word.
func TestP7OneSymbolTurned(t *testing.T) {
	for _, p := range []mend.Params{
		{M: 3, Modulus: 11, First: 0, Delta: 2},
		{M: 4, Modulus: 25, First: 14, Delta: 6, Short: 3, Cut: 4},
		{M: 5, Modulus: 61, First: 3, Delta: 8, Short: 2, Cut: 1, Binary: true},
		{M: 8, Modulus: 285, First: 254, Delta: 17, Short: 100, Cut: 15},
		{M: 8, Modulus: 501, First: 1, Delta: 20, Short: 9, Cut: 18, Binary: true},
		{M: 8, Modulus: 285, First: 1, Delta: 255, Cut: 253},
	} {
		codec := newCodec(t, p)
		_, size := codec.Size()
		messages := someMessages(size, symbolsOf(p))
		word, _, _ := codec.Encode(messages[len(messages)-1])
		for place := range word {
			for _, turn := range []int{1, symbolsOf(p) / 2, symbolsOf(p) - 1} {
				word[place] ^= turn
				checkCheck(t, codec, word, false, ok, 0)
				word[place] ^= turn
			}
		}
		checkCheck(t, codec, word, true, ok, 0)
	}
}

// P6: words, written out.
func TestP6Encode(t *testing.T) {
	for _, c := range []struct {
		p             mend.Params
		message, want []int
	}{
		// With the root 1 alone the last symbol is the sum of the others.
		{mend.Params{M: 3, Modulus: 11, First: 0, Delta: 2}, []int{1, 2, 3, 4, 5, 6}, []int{1, 2, 3, 4, 5, 6, 7}},
		{mend.Params{M: 3, Modulus: 11, First: 0, Delta: 2, Short: 4}, []int{6, 3}, []int{6, 3, 5}},
		{mend.Params{M: 3, Modulus: 11, First: 0, Delta: 2, Binary: true}, []int{1, 0, 0, 1, 1, 0}, []int{1, 0, 0, 1, 1, 0, 1}},
		// The multiples of x^3 + x + 1.
		{mend.Params{M: 3, Modulus: 11, First: 1, Delta: 2, Binary: true}, []int{0, 0, 0, 1}, []int{0, 0, 0, 1, 0, 1, 1}},
		{mend.Params{M: 3, Modulus: 11, First: 4, Delta: 2, Binary: true}, []int{1, 0, 0, 0}, []int{1, 0, 0, 0, 1, 0, 1}},
		// The multiples of x^3 + x^2 + 1.
		{mend.Params{M: 3, Modulus: 11, First: 3, Delta: 2, Binary: true}, []int{0, 0, 0, 1}, []int{0, 0, 0, 1, 1, 0, 1}},
		{mend.Params{M: 3, Modulus: 13, First: 1, Delta: 3, Cut: 1, Binary: true}, []int{0, 0, 0, 1}, []int{0, 0, 0, 1, 1, 0}},
		// All roots but 1: one symbol over and over.
		{mend.Params{M: 3, Modulus: 11, First: 1, Delta: 7, Cut: 5}, []int{7}, []int{7, 7}},
		{mend.Params{M: 3, Modulus: 11, First: 1, Delta: 7}, []int{0}, []int{0, 0, 0, 0, 0, 0, 0}},
		// All roots but x^-1: c_i is x times the one after it.
		{mend.Params{M: 3, Modulus: 11, First: 0, Delta: 7}, []int{1}, []int{1, 5, 7, 6, 3, 4, 2}},
		// A known block of a two-dimensional bar code.
		{
			mend.Params{M: 8, Modulus: 285, First: 0, Delta: 11, Short: 229},
			[]int{32, 91, 11, 120, 209, 114, 220, 77, 67, 64, 236, 17, 236, 17, 236, 17},
			[]int{32, 91, 11, 120, 209, 114, 220, 77, 67, 64, 236, 17, 236, 17, 236, 17, 196, 35, 39, 119, 235, 215, 231, 226, 93, 23},
		},
	} {
		codec := newCodec(t, c.p)
		checkEncode(t, codec, c.message, c.want, ok, 0)
		checkCheck(t, codec, c.want, true, ok, 0)
	}
}

// listCodes are codes whose refusals of lists are tried.
var listCodes = []mend.Params{
	{M: 3, Modulus: 11, First: 1, Delta: 3},
	{M: 3, Modulus: 11, First: 1, Delta: 3, Binary: true},
	{M: 4, Modulus: 19, First: 14, Delta: 7, Short: 2, Cut: 3},
	{M: 5, Modulus: 37, First: 0, Delta: 5, Short: 4, Cut: 2, Binary: true},
	{M: 3, Modulus: 11, First: 1, Delta: 7, Cut: 5},
	{M: 8, Modulus: 285, First: 100, Delta: 30, Short: 7, Cut: 28},
}

// P6, P7: lists of each length, of symbols and of others.
func TestP6P7Lengths(t *testing.T) {
	for _, p := range listCodes {
		codec := newCodec(t, p)
		wordSize, messageSize := codec.Size()
		for size := range 260 {
			for _, list := range [][]int{make([]int, size), slices.Repeat([]int{-1}, size)} {
				if size != messageSize {
					checkEncode(t, codec, list, nil, errLength, 0)
				}
				if size != wordSize {
					checkCheck(t, codec, list, false, errLength, 0)
				}
			}
		}
		checkEncode(t, codec, make([]int, messageSize), make([]int, wordSize), ok, 0)
		checkCheck(t, codec, make([]int, wordSize), true, ok, 0)
		for _, list := range [][]int{nil, make([]int, 1<<20), slices.Repeat([]int{math.MinInt}, 1<<20)} {
			checkEncode(t, codec, list, nil, errLength, 0)
			checkCheck(t, codec, list, false, errLength, 0)
		}
	}
}

// checkBoth hands the same list to Encode, as far as a message goes, and to Check.
func checkBoth(t *testing.T, codec *mend.Codec, list []int, wantPlace int) {
	t.Helper()
	_, messageSize := codec.Size()
	checkCheck(t, codec, list, false, errSymbol, wantPlace)
	if wantPlace < messageSize {
		checkEncode(t, codec, list[:messageSize], nil, errSymbol, wantPlace)
	}
}

// P6, P7: what is no symbol, alone at each place and ahead of others.
func TestP6P7Symbols(t *testing.T) {
	for _, p := range listCodes {
		codec := newCodec(t, p)
		size, _ := codec.Size()
		symbols := symbolsOf(p)
		for _, wrong := range append(farNumbers, symbols, symbols+1, 1<<p.M, -symbols) {
			for place := range size {
				list := slices.Repeat([]int{symbols - 1}, size)
				list[place] = wrong
				checkBoth(t, codec, list, place)
				for after := place; after < size; after++ {
					list[after] = wrong
				}
				checkBoth(t, codec, list, place)
				if place < size-1 {
					list[place+1] = -7 - wrong%2
					checkBoth(t, codec, list, place)
				}
			}
		}
	}
}

// P6, P7: each symbol is one, at each place.
func TestP6P7EachSymbol(t *testing.T) {
	for _, p := range listCodes {
		codec := newCodec(t, p)
		wordSize, messageSize := codec.Size()
		for _, symbol := range []int{0, 1, symbolsOf(p) / 2, symbolsOf(p) - 1} {
			for place := range wordSize {
				word := make([]int, wordSize)
				word[place] = symbol
				checkCheck(t, codec, word, symbol == 0, ok, 0)
				if place < messageSize {
					if _, errno, at := codec.Encode(word[:messageSize]); errno != ok || at != 0 {
						t.Errorf("%+v: Encode(%v): %d at %d", p, word[:messageSize], errno, at)
					}
				}
			}
		}
	}
}
