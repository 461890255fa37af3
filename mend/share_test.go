package mend_test

import (
	"slices"
	"testing"

	"mend/mend"
)

// neighbours are codes that differ in one parameter from the first one.
var neighbours = []mend.Params{
	{M: 4, Modulus: 19, First: 1, Delta: 5},
	{M: 5, Modulus: 37, First: 1, Delta: 5},
	{M: 4, Modulus: 25, First: 1, Delta: 5},
	{M: 4, Modulus: 19, First: 2, Delta: 5},
	{M: 4, Modulus: 19, First: 1, Delta: 6},
	{M: 4, Modulus: 19, First: 1, Delta: 5, Short: 2},
	{M: 4, Modulus: 19, First: 1, Delta: 5, Cut: 2},
	{M: 4, Modulus: 19, First: 1, Delta: 5, Binary: true},
}

// answers are what a codec says of some lists, right ones and wrong ones.
func answers(codec *mend.Codec, p mend.Params) []int {
	wordSize, messageSize := codec.Size()
	told := []int{wordSize, messageSize}
	messages := someMessages(messageSize, symbolsOf(p))
	messages = append(messages, nil, []int{1}, slices.Repeat([]int{1 << p.M}, messageSize))
	for _, message := range messages {
		word, errno, place := codec.Encode(message)
		is, checkErrno, checkPlace := codec.Check(word)
		told = append(append(told, word...), int(errno), place, int(checkErrno), checkPlace, number(is))
		if len(word) > 0 {
			word[0] ^= 1
			is, _, _ = codec.Check(word)
			told = append(told, number(is))
		}
	}
	return told
}

func number(is bool) int {
	if is {
		return 1
	}
	return 0
}

// aloneAnswers are those of a codec that no other one stands beside.
func aloneAnswers(t *testing.T) [][]int {
	var alone [][]int
	for _, p := range neighbours {
		alone = append(alone, answers(newCodec(t, p), p))
	}
	return alone
}

// P2: codecs side by side answer as each does alone, whatever was asked ahead.
func TestP2CodecsSideBySide(t *testing.T) {
	alone := aloneAnswers(t)
	var codecs []*mend.Codec
	for _, p := range slices.Concat(neighbours, neighbours) {
		codecs = append(codecs, newCodec(t, p))
		mend.New(mend.Params{M: p.M, Modulus: p.Modulus, First: -1})
	}
	for _, stride := range []int{1, 3, len(codecs) - 1} {
		for turn := range codecs {
			at := turn * stride % len(codecs)
			which := at % len(neighbours)
			if got := answers(codecs[at], neighbours[which]); !slices.Equal(got, alone[which]) {
				t.Errorf("%+v: %v, want %v", neighbours[which], got, alone[which])
			}
		}
	}
}

// P2: calls of two codecs in turn.
func TestP2CallsInTurn(t *testing.T) {
	p, other := neighbours[0], neighbours[2]
	one, two := newCodec(t, p), newCodec(t, other)
	message := []int{1, 2, 3, 4, 5, 6, 7, 8, 9, 10, 11}
	wordOne, _, _ := one.Encode(message)
	wordTwo, _, _ := two.Encode(message)
	if slices.Equal(wordOne, wordTwo) {
		t.Fatalf("both codes answer %v", wordOne)
	}
	for range 3 {
		checkCheck(t, one, wordOne, true, ok, 0)
		checkCheck(t, two, wordTwo, true, ok, 0)
		checkCheck(t, one, wordTwo, false, ok, 0)
		checkCheck(t, two, wordOne, false, ok, 0)
		checkEncode(t, one, message, wordOne, ok, 0)
		checkEncode(t, two, message, wordTwo, ok, 0)
	}
}

// P2: codecs that are used at the same time.
func TestP2CodecsAtTheSameTime(t *testing.T) {
	alone := aloneAnswers(t)
	for i, p := range neighbours {
		codec := newCodec(t, p)
		t.Run("", func(t *testing.T) {
			t.Parallel()
			for range 20 {
				if got := answers(codec, p); !slices.Equal(got, alone[i]) {
					t.Errorf("%+v: %v, want %v", p, got, alone[i])
				}
			}
		})
	}
}

// spare is a list with room behind it, and what is in that room.
func spare(list []int) ([]int, []int) {
	whole := append(slices.Clone(list), 77, 78, 79, 80, 81, 82, 83, 84)
	return whole[:len(list)], whole
}

// P2: lists that are handed in stay as they were, with the room behind them.
func TestP2ListsAreNotChanged(t *testing.T) {
	for _, p := range slices.Concat(neighbours, listCodes) {
		codec := newCodec(t, p)
		_, messageSize := codec.Size()
		for _, message := range append(someMessages(messageSize, symbolsOf(p)), nil, []int{5}, slices.Repeat([]int{-1}, messageSize)) {
			list, whole := spare(message)
			before := slices.Clone(whole)
			word, _, _ := codec.Encode(list)
			if !slices.Equal(whole, before) {
				t.Errorf("%+v: Encode(%v) left %v", p, message, whole)
			}
			list, whole = spare(word)
			before = slices.Clone(whole)
			codec.Check(list)
			if len(list) > 0 {
				whole[0], before[0] = 1<<p.M, 1<<p.M
				codec.Check(list)
				whole[0], before[0] = 1-word[0]&1, 1-word[0]&1
				codec.Check(list)
			}
			if !slices.Equal(whole, before) {
				t.Errorf("%+v: Check(%v) left %v", p, word, whole)
			}
		}
	}
}

// scribble writes over a list and the room behind it.
func scribble(list []int) {
	list = list[:cap(list)]
	for i := range list {
		list[i] = -99
	}
}

// P2: an answer is the caller's: writing into it, or into the list that was
// handed in, changes nothing else.
func TestP2AnswersAreNewMemory(t *testing.T) {
	for _, p := range slices.Concat(neighbours, listCodes) {
		codec := newCodec(t, p)
		_, messageSize := codec.Size()
		messages := someMessages(messageSize, symbolsOf(p))
		message := messages[len(messages)-1]
		first, _, _ := codec.Encode(message)
		want := slices.Clone(first)
		handed := slices.Clone(message)
		second, _, _ := codec.Encode(handed)
		scribble(first)
		if !slices.Equal(second, want) || !slices.Equal(handed, message) {
			t.Errorf("%+v: an answer shares memory: %v and %v, want %v and %v", p, second, handed, want, message)
		}
		scribble(handed)
		if !slices.Equal(second, want) {
			t.Errorf("%+v: an answer shares memory with what was handed in", p)
		}
		scribble(second)
		checkEncode(t, codec, message, want, ok, 0)
		checkCheck(t, codec, want, true, ok, 0)
	}
}
