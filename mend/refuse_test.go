package mend_test

import (
	"slices"
	"testing"

	"mend/mend"
)

// P8: lists of each length, of symbols and of others, with places of all sorts.
func TestP8Lengths(t *testing.T) {
	for _, p := range listCodes {
		codec := newCodec(t, p)
		wordSize, _ := codec.Size()
		for size := range 260 {
			if size == wordSize {
				continue
			}
			for _, lost := range [][]int{nil, {}, {0}, {-1}, {3, 3}, slices.Repeat([]int{0}, 300)} {
				checkDecode(t, codec, make([]int, size), lost, nil, nil, errLength, 0)
				checkDecode(t, codec, slices.Repeat([]int{-1}, size), lost, nil, nil, errLength, 0)
			}
		}
		checkDecode(t, codec, nil, nil, nil, nil, errLength, 0)
		checkDecode(t, codec, []int{}, []int{0}, nil, nil, errLength, 0)
		checkDecode(t, codec, make([]int, 1<<20), nil, nil, nil, errLength, 0)
		checkMended(t, codec, make([]int, wordSize), nil, make([]int, wordSize))
	}
}

// P8: what is no symbol is refused, wherever it stands, be that place lost and
// the numbers of lost what they like.
func TestP8Symbols(t *testing.T) {
	for _, p := range listCodes {
		codec := newCodec(t, p)
		size, _ := codec.Size()
		symbols := symbolsOf(p)
		for _, wrong := range append(farNumbers, symbols, symbols+1, 1<<p.M, -symbols) {
			for _, place := range []int{0, 1, size / 2, size - 1} {
				word := make([]int, size)
				word[place] = wrong
				for _, lost := range [][]int{nil, {place}, {-1}, {size}, {place, place}, {1, 0}} {
					checkDecode(t, codec, word, lost, nil, nil, errSymbol, place)
				}
				word[size-1] = -1
				checkDecode(t, codec, word, nil, nil, nil, errSymbol, place)
			}
		}
	}
}

// wantPlaces is the place of the first number of lost that may not be, or -1.
func wantPlaces(lost []int, size int) int {
	for i, place := range lost {
		if place < 0 || place >= size || i > 0 && !(place > lost[i-1]) {
			return i
		}
	}
	return -1
}

// P8: all lists of up to four numbers, from below a word's places to above them.
func TestP8EveryListOfPlaces(t *testing.T) {
	p := mend.Params{M: 3, Modulus: 11, First: 2, Delta: 4, Short: 1, Cut: 1}
	codec := newCodec(t, p)
	sent, _, _ := codec.Encode([]int{5, 6, 7})
	for count := range 5 {
		eachList(count, len(sent)+4, func(list []int) {
			lost := slices.Clone(list)
			for i := range lost {
				lost[i] -= 2
			}
			switch place := wantPlaces(lost, len(sent)); {
			case place >= 0:
				checkDecode(t, codec, sent, lost, nil, nil, errPlace, place)
			case len(lost)+p.Cut < p.Delta:
				checkMended(t, codec, sent, lost, sent)
			default:
				checkLost(t, codec, sent, lost)
			}
		})
	}
}

// P8: numbers of lost, each alone at one place among others that may be.
func TestP8Places(t *testing.T) {
	for _, p := range listCodes {
		codec := newCodec(t, p)
		size, _ := codec.Size()
		every := make([]int, size)
		for place := range every {
			every[place] = place
		}
		word := make([]int, size)
		checkLost(t, codec, word, every)
		for _, wrong := range append(farNumbers, size, size+1, 255, -size) {
			if wrong >= 0 && wrong < size {
				continue
			}
			for at := range every {
				lost := slices.Clone(every)
				lost[at] = wrong
				checkDecode(t, codec, word, lost, nil, nil, errPlace, at)
				lost[size-1] = -1
				checkDecode(t, codec, word, lost, nil, nil, errPlace, at)
				checkDecode(t, codec, word, append(every[:at:at], wrong), nil, nil, errPlace, at)
			}
		}
		for at := 1; at < size; at++ {
			twice := slices.Clone(every)
			twice[at] = twice[at-1]
			checkDecode(t, codec, word, twice, nil, nil, errPlace, at)
			falling := slices.Clone(every)
			falling[at-1], falling[at] = falling[at], falling[at-1]
			checkDecode(t, codec, word, falling, nil, nil, errPlace, at)
		}
		checkDecode(t, codec, word, append(slices.Clone(every), every...), nil, nil, errPlace, size)
		checkDecode(t, codec, word, make([]int, 1<<20), nil, nil, errPlace, 1)
	}
}

// P1, P8: of several errors the one named first is answered.
func TestP8FirstError(t *testing.T) {
	codec := newCodec(t, mend.Params{M: 3, Modulus: 11, First: 1, Delta: 3})
	for _, c := range []struct {
		word, lost []int
		errno      mend.Errno
		place      int
	}{
		{[]int{9, 9, 9}, []int{-1}, errLength, 0},
		{[]int{0, 0, 0, 9, 0, 8, 0}, []int{-1}, errSymbol, 3},
		{[]int{0, 0, 0, 0, 0, -8, 0}, []int{5, 5}, errSymbol, 5},
		{[]int{1, 2, 3, 4, 5, 6, 7}, []int{0, 1, 2, 3, 3}, errPlace, 4},
		{[]int{1, 2, 3, 4, 5, 6, 7}, []int{0, 7, -1}, errPlace, 1},
		{[]int{1, 2, 3, 4, 5, 6, 7}, []int{6, 5, 7}, errPlace, 1},
		{[]int{1, 2, 3, 4, 5, 6, 7}, []int{0, 1, 2}, errLost, 0},
	} {
		checkDecode(t, codec, c.word, c.lost, nil, nil, c.errno, c.place)
	}
}
