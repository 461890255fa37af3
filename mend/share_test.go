package mend_test

import (
	"slices"
	"testing"

	"mend/mend"
)

// neighbours are codes that differ in one parameter from the first one.
var neighbours = []mend.Params{
	{M: 4, Modulus: 19, First: 1, Delta: 5},
	{M: 5, Modulus: 37, First: 1, Delta: 5},
	{M: 4, Modulus: 25, First: 1, Delta: 5},
	{M: 4, Modulus: 19, First: 2, Delta: 5},
	{M: 4, Modulus: 19, First: 1, Delta: 6},
	{M: 4, Modulus: 19, First: 1, Delta: 5, Short: 2},
	{M: 4, Modulus: 19, First: 1, Delta: 5, Cut: 2},
	{M: 4, Modulus: 19, First: 1, Delta: 5, Binary: true},
}

// answers are what a codec says of some lists, right ones and wrong ones.
func answers(codec *mend.Codec, p mend.Params) []int {
	wordSize, messageSize := codec.Size()
	told := []int{wordSize, messageSize}
	messages := someMessages(messageSize, symbolsOf(p))
	messages = append(messages, nil, []int{1}, slices.Repeat([]int{1 << p.M}, messageSize))
	for _, message := range messages {
		word, errno, place := codec.Encode(message)
		is, checkErrno, checkPlace := codec.Check(word)
		told = append(append(told, word...), int(errno), place, int(checkErrno), checkPlace, number(is))
		if len(word) > 0 {
			word[0] ^= 1
			is, _, _ = codec.Check(word)
			told = append(told, number(is))
		}
		for _, lost := range [][]int{nil, {0}, {0, 1, 2}, {1, 0}} {
			told = append(told, decodeAnswers(codec, word, lost)...)
		}
	}
	return told
}

func decodeAnswers(codec *mend.Codec, word []int, lost []int) []int {
	message, mended, errno, place := codec.Decode(word, lost)
	return slices.Concat(message, mended, []int{len(message), len(mended), int(errno), place})
}

func number(is bool) int {
	if is {
		return 1
	}
	return 0
}

// aloneAnswers are those of a codec that no other one stands beside.
func aloneAnswers(t *testing.T) [][]int {
	var alone [][]int
	for _, p := range neighbours {
		alone = append(alone, answers(newCodec(t, p), p))
	}
	return alone
}

// P2: codecs side by side answer as each does alone, whatever was asked ahead.
func TestP2CodecsSideBySide(t *testing.T) {
	alone := aloneAnswers(t)
	var codecs []*mend.Codec
	for _, p := range slices.Concat(neighbours, neighbours) {
		codecs = append(codecs, newCodec(t, p))
		mend.New(mend.Params{M: p.M, Modulus: p.Modulus, First: -1})
	}
	for _, stride := range []int{1, 3, len(codecs) - 1} {
		for turn := range codecs {
			at := turn * stride % len(codecs)
			which := at % len(neighbours)
			if got := answers(codecs[at], neighbours[which]); !slices.Equal(got, alone[which]) {
				t.Errorf("%+v: %v, want %v", neighbours[which], got, alone[which])
			}
		}
	}
}

// P2: calls of two codecs in turn.
func TestP2CallsInTurn(t *testing.T) {
	p, other := neighbours[0], neighbours[2]
	one, two := newCodec(t, p), newCodec(t, other)
	message := []int{1, 2, 3, 4, 5, 6, 7, 8, 9, 10, 11}
	wordOne, _, _ := one.Encode(message)
	wordTwo, _, _ := two.Encode(message)
	if slices.Equal(wordOne, wordTwo) {
		t.Fatalf("both codes answer %v", wordOne)
	}
	for range 3 {
		checkCheck(t, one, wordOne, true, ok, 0)
		checkCheck(t, two, wordTwo, true, ok, 0)
		checkCheck(t, one, wordTwo, false, ok, 0)
		checkCheck(t, two, wordOne, false, ok, 0)
		checkEncode(t, one, message, wordOne, ok, 0)
		checkEncode(t, two, message, wordTwo, ok, 0)
	}
}

// P2: codecs that are used at the same time.
func TestP2CodecsAtTheSameTime(t *testing.T) {
	alone := aloneAnswers(t)
	for i, p := range neighbours {
		codec := newCodec(t, p)
		t.Run("", func(t *testing.T) {
			t.Parallel()
			for range 20 {
				if got := answers(codec, p); !slices.Equal(got, alone[i]) {
					t.Errorf("%+v: %v, want %v", p, got, alone[i])
				}
			}
		})
	}
}

// spare is a list with room behind it, and what is in that room.
func spare(list []int) ([]int, []int) {
	whole := append(slices.Clone(list), 77, 78, 79, 80, 81, 82, 83, 84)
	return whole[:len(list)], whole
}

// P2: lists that are handed in stay as they were, with the room behind them.
func TestP2ListsAreNotChanged(t *testing.T) {
	for _, p := range slices.Concat(neighbours, listCodes) {
		codec := newCodec(t, p)
		_, messageSize := codec.Size()
		for _, message := range append(someMessages(messageSize, symbolsOf(p)), nil, []int{5}, slices.Repeat([]int{-1}, messageSize)) {
			list, whole := spare(message)
			before := slices.Clone(whole)
			word, _, _ := codec.Encode(list)
			if !slices.Equal(whole, before) {
				t.Errorf("%+v: Encode(%v) left %v", p, message, whole)
			}
			list, whole = spare(word)
			before = slices.Clone(whole)
			codec.Check(list)
			if len(list) > 0 {
				whole[0], before[0] = 1<<p.M, 1<<p.M
				codec.Check(list)
				whole[0], before[0] = 1-word[0]&1, 1-word[0]&1
				codec.Check(list)
			}
			if !slices.Equal(whole, before) {
				t.Errorf("%+v: Check(%v) left %v", p, word, whole)
			}
		}
	}
}

// scribble writes over a list and the room behind it.
func scribble(list []int) {
	list = list[:cap(list)]
	for i := range list {
		list[i] = -99
	}
}

// P2: an answer is the caller's: writing into it, or into the list that was
// handed in, changes nothing else.
func TestP2AnswersAreNewMemory(t *testing.T) {
	for _, p := range slices.Concat(neighbours, listCodes) {
		codec := newCodec(t, p)
		_, messageSize := codec.Size()
		messages := someMessages(messageSize, symbolsOf(p))
		message := messages[len(messages)-1]
		first, _, _ := codec.Encode(message)
		want := slices.Clone(first)
		handed := slices.Clone(message)
		second, _, _ := codec.Encode(handed)
		scribble(first)
		if !slices.Equal(second, want) || !slices.Equal(handed, message) {
			t.Errorf("%+v: an answer shares memory: %v and %v, want %v and %v", p, second, handed, want, message)
		}
		scribble(handed)
		if !slices.Equal(second, want) {
			t.Errorf("%+v: an answer shares memory with what was handed in", p)
		}
		scribble(second)
		checkEncode(t, codec, message, want, ok, 0)
		checkCheck(t, codec, want, true, ok, 0)
	}
}

// spoiltCase is a word that has come, of which something is lost and turned.
type spoiltCase struct {
	sent, word, lost []int
	want             []int // all that Decode answers
}

// spoiltCases are some of a code, from such that can be mended to such that can
// not; the answers are those of codecs that were asked nothing else.
func spoiltCases(t *testing.T, p mend.Params) []spoiltCase {
	t.Helper()
	d := &dice{state: 5}
	var cases []spoiltCase
	for count := range 12 {
		codec := newCodec(t, p)
		size, _ := codec.Size()
		places := d.shuffled(size)
		turns := count % 4 % size
		losses := min(count/2, size-turns)
		sent := d.sentWord(t, codec, p)
		lost := slices.Sorted(slices.Values(places[turns : turns+losses]))
		word := d.spoilt(p, sent, places[:turns], lost)
		want := decodeAnswers(codec, slices.Clone(word), slices.Clone(lost))
		cases = append(cases, spoiltCase{sent, word, lost, want})
	}
	return cases
}

func (c spoiltCase) check(t *testing.T, codec *mend.Codec) {
	t.Helper()
	if got := decodeAnswers(codec, c.word, c.lost); !slices.Equal(got, c.want) {
		t.Errorf("Decode(%v, %v) answers %v, want %v", c.word, c.lost, got, c.want)
	}
}

// P2: one codec asked again and again, after each case each other one, and with
// other calls in between.
func TestP2DecodeAgain(t *testing.T) {
	for _, p := range slices.Concat(neighbours, listCodes) {
		codec, cases := newCodec(t, p), spoiltCases(t, p)
		size, messageSize := codec.Size()
		for _, one := range cases {
			for _, other := range cases {
				one.check(t, codec)
				other.check(t, codec)
			}
			checkEncode(t, codec, one.sent[:messageSize], one.sent, ok, 0)
			one.check(t, codec)
			checkCheck(t, codec, one.sent, true, ok, 0)
			one.check(t, codec)
			checkDecode(t, codec, nil, one.lost, nil, nil, errLength, 0)
			one.check(t, codec)
			checkDecode(t, codec, slices.Repeat([]int{-1}, size), one.lost, nil, nil, errSymbol, 0)
			one.check(t, codec)
			checkDecode(t, codec, one.word, []int{0, 0}, nil, nil, errPlace, 1)
			one.check(t, codec)
			checkMended(t, codec, one.sent, nil, one.sent)
			one.check(t, codec)
		}
	}
}

// P2: two codecs in turn, of codes that differ in one parameter, or in none.
func TestP2DecodeSideBySide(t *testing.T) {
	p := neighbours[0]
	one, cases := newCodec(t, p), spoiltCases(t, p)
	for _, q := range neighbours {
		other, others := newCodec(t, q), spoiltCases(t, q)
		for i := range cases {
			cases[i].check(t, one)
			others[i].check(t, other)
			cases[len(cases)-1-i].check(t, one)
		}
	}
}

// P2: one codec asked at the same time from several sides.
func TestP2DecodeAtTheSameTime(t *testing.T) {
	for _, p := range listCodes {
		codec, cases := newCodec(t, p), spoiltCases(t, p)
		for range 4 {
			t.Run("", func(t *testing.T) {
				t.Parallel()
				for range 30 {
					for _, c := range cases {
						c.check(t, codec)
					}
				}
			})
		}
	}
}

// P2: Decode leaves both lists as they were, with the room behind them.
func TestP2DecodeChangesNoList(t *testing.T) {
	for _, p := range slices.Concat(neighbours, listCodes) {
		codec := newCodec(t, p)
		for _, c := range spoiltCases(t, p) {
			for _, lost := range [][]int{c.lost, nil, {1, 0}, {-1}} {
				word, wholeWord := spare(c.word)
				places, wholePlaces := spare(lost)
				codec.Decode(word, places)
				_, wantWord := spare(c.word)
				_, wantPlaces := spare(lost)
				if !slices.Equal(wholeWord, wantWord) || !slices.Equal(wholePlaces, wantPlaces) {
					t.Errorf("%+v: Decode(%v, %v) left %v and %v", p, c.word, lost, wholeWord, wholePlaces)
				}
			}
		}
	}
}

// P2: what Decode answers is the caller's: neither of the two lists shares memory
// with the other, with a list that was handed in, with an earlier answer, or with
// what the codec works in.
func TestP2DecodeAnswersNewMemory(t *testing.T) {
	for _, p := range slices.Concat(neighbours, listCodes) {
		codec := newCodec(t, p)
		d := &dice{state: 7}
		sent := d.sentWord(t, codec, p)
		_, messageSize := codec.Size()
		handed, lost := slices.Clone(sent), []int{0}
		if p.Delta-p.Cut < 2 {
			t.Fatalf("%+v bears no loss", p)
		}
		message, mended, _, _ := codec.Decode(handed, lost)
		again, mendedAgain, _, _ := codec.Decode(handed, lost)
		scribble(handed)
		scribble(lost)
		scribble(message)
		if !slices.Equal(mended, sent) {
			t.Errorf("%+v: the word is %v once the message is written over, want %v", p, mended, sent)
		}
		scribble(mended)
		if !slices.Equal(again, sent[:messageSize]) || !slices.Equal(mendedAgain, sent) {
			t.Errorf("%+v: the second answer is %v, %v once the first is written over", p, again, mendedAgain)
		}
		scribble(mendedAgain)
		if !slices.Equal(again, sent[:messageSize]) {
			t.Errorf("%+v: the message is %v once the word is written over", p, again)
		}
		checkMended(t, codec, sent, []int{0}, sent)
		checkMended(t, codec, sent, nil, sent)
	}
}
