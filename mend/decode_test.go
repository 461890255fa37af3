package mend_test

import (
	"slices"
	"testing"

	"mend/mend"
)

const (
	errPlace = mend.ErrPlace
	errLost  = mend.ErrLost
)

func checkDecode(t *testing.T, codec *mend.Codec, word []int, lost []int, wantMessage []int, wantWord []int, wantErrno mend.Errno, wantPlace int) {
	t.Helper()
	message, mended, errno, place := codec.Decode(word, lost)
	if !slices.Equal(message, wantMessage) || !slices.Equal(mended, wantWord) || errno != wantErrno || place != wantPlace {
		t.Errorf("Decode(%v, %v) = %v, %v, %d at %d, want %v, %v, %d at %d",
			word, lost, message, mended, errno, place, wantMessage, wantWord, wantErrno, wantPlace)
	}
}

// checkMended: word and lost lead to sent, which is a word of the codec.
func checkMended(t *testing.T, codec *mend.Codec, word []int, lost []int, sent []int) {
	t.Helper()
	_, messageSize := codec.Size()
	checkDecode(t, codec, word, lost, sent[:messageSize], sent, ok, 0)
}

func checkLost(t *testing.T, codec *mend.Codec, word []int, lost []int) {
	t.Helper()
	checkDecode(t, codec, word, lost, nil, nil, errLost, 0)
}

// isNear counts as the document does.
func isNear(p mend.Params, sent []int, word []int, lost []int) bool {
	turned := 0
	for place, symbol := range sent {
		if symbol != word[place] && !slices.Contains(lost, place) {
			turned++
		}
	}
	return 2*turned+len(lost)+p.Cut < p.Delta
}

// allWords are all the words of a code.
func allWords(t *testing.T, codec *mend.Codec, p mend.Params) [][]int {
	t.Helper()
	var words [][]int
	_, size := codec.Size()
	eachList(size, symbolsOf(p), func(message []int) {
		word, errno, _ := codec.Encode(message)
		if errno != ok {
			t.Fatalf("%+v: Encode(%v) answers %d", p, message, errno)
		}
		words = append(words, word)
	})
	return words
}

// allPlaces are all the lists of places, in rising order, of words of that size.
func allPlaces(size int) [][]int {
	var lists [][]int
	for which := range 1 << size {
		var places []int
		for place := range size {
			if which>>place&1 == 1 {
				places = append(places, place)
			}
		}
		lists = append(lists, places)
	}
	return lists
}

// checkNearest holds Decode against all words of the code, one by one.
func checkNearest(t *testing.T, codec *mend.Codec, p mend.Params, words [][]int, word []int, lost []int) {
	t.Helper()
	var near [][]int
	for _, sent := range words {
		if isNear(p, sent, word, lost) {
			near = append(near, sent)
		}
	}
	switch len(near) {
	case 0:
		checkLost(t, codec, word, lost)
	case 1:
		checkMended(t, codec, word, lost, near[0])
	default:
		t.Fatalf("%+v: %d words are near %v, %v", p, len(near), word, lost)
	}
}

// checkEveryList decodes every list there is, with every list of places.
func checkEveryList(t *testing.T, p mend.Params) {
	t.Helper()
	codec := newCodec(t, p)
	size, _ := codec.Size()
	words, places := allWords(t, codec, p), allPlaces(size)
	eachList(size, symbolsOf(p), func(list []int) {
		for _, lost := range places {
			checkNearest(t, codec, p, words, list, lost)
		}
	})
	if t.Failed() {
		t.Fatalf("these were of %+v", p)
	}
}

// eachSmallCode runs do on the codes of the smallest field.
func eachSmallCode(modulus int, binary bool, do func(mend.Params)) {
	for first := range 7 {
		for delta := 2; delta <= 7; delta++ {
			p := mend.Params{M: 3, Modulus: modulus, First: first, Delta: delta, Binary: binary}
			k := wantK(p)
			for p.Short = range k {
				for p.Cut = range delta - 1 {
					do(p)
				}
			}
		}
	}
}

// P8: everything that can come, of every Binary code of the smallest field.
func TestP8EveryListOfBits(t *testing.T) {
	eachSmallCode(11, true, func(p mend.Params) { checkEveryList(t, p) })
}

// P8: everything that can come, of all codes of greater symbols whose words are
// so short that it is not too much.
func TestP8EveryShortListOfElements(t *testing.T) {
	eachSmallCode(13, false, func(p mend.Params) {
		if 7-p.Short-p.Cut <= 3 {
			checkEveryList(t, p)
		}
	})
}

// dice are numbers of all sorts, always the same ones.
type dice struct{ state int }

func (d *dice) below(limit int) int {
	d.state = (d.state*75 + 74) % 65537
	return d.state % limit
}

// shuffled are the places of a word of that size, in no order.
func (d *dice) shuffled(size int) []int {
	places := make([]int, size)
	for i := range places {
		at := d.below(i + 1)
		places[i], places[at] = places[at], i
	}
	return places
}

// spoilt is a word that was sent and came otherwise: turned at some places, and
// at those that are lost whatever the dice say.
func (d *dice) spoilt(p mend.Params, sent []int, turned []int, lost []int) []int {
	word := slices.Clone(sent)
	for _, place := range turned {
		word[place] ^= 1 + d.below(symbolsOf(p)-1)
	}
	for _, place := range lost {
		word[place] = d.below(symbolsOf(p))
	}
	return word
}

// sentWord is a word of the codec.
func (d *dice) sentWord(t *testing.T, codec *mend.Codec, p mend.Params) []int {
	t.Helper()
	_, size := codec.Size()
	message := make([]int, size)
	for i := range message {
		message[i] = d.below(symbolsOf(p))
	}
	word, errno, _ := codec.Encode(message)
	if errno != ok {
		t.Fatalf("%+v: Encode(%v) answers %d", p, message, errno)
	}
	return word
}

// checkSpoilt spoils a word at the first ones of places: so many are turned, and
// so many behind these are lost. If that is too much, another word may be near.
func (d *dice) checkSpoilt(t *testing.T, codec *mend.Codec, p mend.Params, places []int, turns int, losses int) {
	t.Helper()
	sent := d.sentWord(t, codec, p)
	turned := places[:turns]
	lost := slices.Sorted(slices.Values(places[turns : turns+losses]))
	word := d.spoilt(p, sent, turned, lost)
	if 2*turns+losses+p.Cut < p.Delta {
		checkMended(t, codec, word, lost, sent)
		return
	}
	message, other, errno, place := codec.Decode(word, lost)
	if errno == errLost && len(message) == 0 && len(other) == 0 && place == 0 {
		return
	}
	is, _, _ := codec.Check(other)
	if errno != ok || place != 0 || !is || !slices.Equal(message, other[:len(message)]) || !isNear(p, other, word, lost) {
		t.Errorf("%+v: Decode(%v, %v) = %v, %v, %d at %d, which is not near", p, word, lost, message, other, errno, place)
	}
}

// checkEdge spoils words by as much as can be borne, and by one more, in all ways
// to part that among turned places and lost ones.
func (d *dice) checkEdge(t *testing.T, p mend.Params) {
	t.Helper()
	codec := newCodec(t, p)
	size, _ := codec.Size()
	step := 1 + p.Delta/12
	for turns := 0; 2*turns <= p.Delta-p.Cut; turns += step {
		for _, sum := range []int{p.Delta - 1, p.Delta, p.Delta + 1} {
			if losses := sum - p.Cut - 2*turns; losses >= 0 && turns+losses <= size {
				d.checkSpoilt(t, codec, p, d.shuffled(size), turns, losses)
			}
		}
	}
}

// P8: codes of each field, First at 0, at n - 1 and between, with the least and
// the greatest Delta and some between, whole ones, and shortened and cut.
func TestP8CodesOfEachField(t *testing.T) {
	d := &dice{state: 1}
	for m := 3; m <= 8; m++ {
		n := 1<<m - 1
		for _, binary := range []bool{false, true} {
			for _, first := range []int{0, 1, n / 2, n - 1} {
				for _, delta := range []int{2, 3, 4, 7, n / 2, n - 1, n} {
					p := mend.Params{M: m, Modulus: otherModulus[m], First: first, Delta: delta, Binary: binary}
					k := wantK(p)
					if k == 0 {
						continue
					}
					d.checkEdge(t, p)
					p.Short, p.Cut = k/2, 0
					d.checkEdge(t, p)
					p.Short, p.Cut = 0, (delta-2)/2
					d.checkEdge(t, p)
					p.Short, p.Cut = k-1, delta-2
					d.checkEdge(t, p)
				}
			}
		}
	}
}

// P8: every code of the smallest field, spoilt at all sets of places.
func TestP8EverySetOfPlaces(t *testing.T) {
	d := &dice{state: 2}
	eachSmallCode(11, false, func(p mend.Params) {
		codec := newCodec(t, p)
		size, _ := codec.Size()
		for _, places := range allPlaces(size) {
			for turns := range len(places) + 1 {
				d.checkSpoilt(t, codec, p, places, turns, len(places)-turns)
				slices.Reverse(places)
			}
		}
	})
}

// P8: words as they were sent, with no place in lost and with all that can be
// borne, whatever stands there.
func TestP8WordsAsSent(t *testing.T) {
	for _, p := range slices.Concat(neighbours, listCodes) {
		codec := newCodec(t, p)
		size, messageSize := codec.Size()
		for _, message := range someMessages(messageSize, symbolsOf(p)) {
			sent, _, _ := codec.Encode(message)
			checkDecode(t, codec, sent, nil, message, sent, ok, 0)
			checkDecode(t, codec, sent, []int{}, message, sent, ok, 0)
			for losses := 1; losses < p.Delta-p.Cut; losses++ {
				var lost []int
				for i := range losses {
					lost = append(lost, size-losses+i)
				}
				checkDecode(t, codec, sent, lost, message, sent, ok, 0)
			}
		}
	}
}

// P8: one place alone, each from the first to the last, turned or lost.
func TestP8OnePlace(t *testing.T) {
	d := &dice{state: 3}
	for _, p := range []mend.Params{
		{M: 3, Modulus: 11, First: 0, Delta: 2},
		{M: 3, Modulus: 11, First: 6, Delta: 2, Binary: true},
		{M: 3, Modulus: 11, First: 3, Delta: 3},
		{M: 4, Modulus: 19, First: 14, Delta: 5, Short: 3, Cut: 2},
		{M: 4, Modulus: 19, First: 1, Delta: 5, Short: 1, Cut: 2, Binary: true},
		{M: 8, Modulus: 285, First: 254, Delta: 9, Cut: 6},
		{M: 8, Modulus: 285, First: 100, Delta: 3, Short: 9, Binary: true},
		{M: 8, Modulus: 285, First: 0, Delta: 255, Cut: 252},
		{M: 6, Modulus: 67, First: 1, Delta: 63, Cut: 61, Binary: true},
	} {
		codec := newCodec(t, p)
		size, _ := codec.Size()
		for place := range size {
			d.checkSpoilt(t, codec, p, []int{place}, 0, 1)
			d.checkSpoilt(t, codec, p, []int{place}, 1, 0)
			if place > 0 {
				d.checkSpoilt(t, codec, p, []int{0, place}, 1, 1)
				d.checkSpoilt(t, codec, p, []int{place, 0}, 1, 1)
			}
		}
	}
}

// P8: words, written out.
func TestP8Decode(t *testing.T) {
	repeated := mend.Params{M: 3, Modulus: 11, First: 1, Delta: 7} // one symbol over and over
	summed := mend.Params{M: 3, Modulus: 11, First: 0, Delta: 2}   // the last symbol is the sum of the others
	hamming := mend.Params{M: 3, Modulus: 11, First: 1, Delta: 3, Binary: true}
	fives := []int{5, 5, 5, 5, 5, 5, 5}
	for _, c := range []struct {
		p                mend.Params
		word, lost, want []int
	}{
		{repeated, []int{5, 5, 5, 5, 1, 2, 3}, nil, fives},
		{repeated, []int{0, 0, 0, 5, 5, 5, 5}, nil, fives},
		{repeated, []int{5, 5, 5, 1, 2, 3, 4}, nil, nil},
		{repeated, []int{5, 5, 5, 1, 1, 3, 4}, []int{3}, nil},
		{repeated, []int{5, 5, 5, 5, 1, 3, 4}, []int{3}, nil},
		{repeated, []int{1, 5, 5, 5, 5, 3, 4}, []int{0}, fives},
		{repeated, []int{5, 5, 1, 0, 0, 0, 0}, []int{3, 4, 5, 6}, fives},
		{repeated, []int{5, 1, 0, 0, 0, 0, 0}, []int{2, 3, 4, 5, 6}, nil},
		{repeated, []int{5, 5, 0, 0, 0, 0, 0}, []int{2, 3, 4, 5, 6}, fives},
		{repeated, []int{0, 1, 2, 5, 3, 4, 6}, []int{0, 1, 2, 4, 5, 6}, fives},
		{repeated, []int{5, 5, 5, 5, 5, 5, 5}, []int{0, 1, 2, 3, 4, 5, 6}, nil},
		{summed, []int{1, 2, 3, 4, 5, 6, 7}, nil, []int{1, 2, 3, 4, 5, 6, 7}},
		{summed, []int{1, 2, 3, 4, 5, 6, 0}, []int{6}, []int{1, 2, 3, 4, 5, 6, 7}},
		{summed, []int{7, 2, 3, 4, 5, 6, 7}, []int{0}, []int{1, 2, 3, 4, 5, 6, 7}},
		{summed, []int{1, 2, 3, 4, 5, 6, 6}, nil, nil},
		{summed, []int{1, 2, 3, 4, 5, 6, 7}, []int{0, 6}, nil},
		{hamming, []int{0, 0, 0, 0, 0, 1, 1}, nil, []int{0, 0, 0, 1, 0, 1, 1}},
		{hamming, []int{1, 0, 0, 1, 0, 1, 1}, nil, []int{0, 0, 0, 1, 0, 1, 1}},
		{hamming, []int{0, 0, 0, 0, 0, 0, 1}, nil, []int{0, 0, 0, 0, 0, 0, 0}},
		{hamming, []int{0, 0, 0, 0, 0, 0, 1}, []int{3, 5}, []int{0, 0, 0, 1, 0, 1, 1}},
	} {
		codec := newCodec(t, c.p)
		if c.want == nil {
			checkLost(t, codec, c.word, c.lost)
		} else {
			checkMended(t, codec, c.word, c.lost, c.want)
		}
	}
}

// P8: a known block of a two-dimensional bar code.
func TestP8KnownBlock(t *testing.T) {
	codec := newCodec(t, mend.Params{M: 8, Modulus: 285, First: 0, Delta: 11, Short: 229})
	sent := []int{32, 91, 11, 120, 209, 114, 220, 77, 67, 64, 236, 17, 236, 17, 236, 17, 196, 35, 39, 119, 235, 215, 231, 226, 93, 23}
	word := slices.Clone(sent)
	for _, place := range []int{0, 7, 15, 16, 25} {
		word[place] = 255 - sent[place]
	}
	checkMended(t, codec, word, nil, sent)
	word[20] = 0
	checkLost(t, codec, word, nil)
	checkLost(t, codec, word, []int{20})
	checkMended(t, codec, word, []int{7, 20}, sent)
	checkMended(t, codec, word, []int{0, 7, 15, 16, 20, 25}, sent)
}

// P8: one word is nearer than any other though it is farther than Delta allows:
// that is what counts.
func TestP8NearestButNotNearEnough(t *testing.T) {
	codec := newCodec(t, mend.Params{M: 3, Modulus: 11, First: 1, Delta: 2, Binary: true})
	sent := []int{0, 0, 0, 1, 0, 1, 1} // no two words of this code differ at fewer than 3 places
	for place := range 7 {
		word := slices.Clone(sent)
		word[place] ^= 1
		checkLost(t, codec, word, nil)
		checkMended(t, codec, word, []int{place}, sent)
		for other := place + 1; other < 7; other++ {
			checkLost(t, codec, sent, []int{place, other})
		}
	}
}

// P8: a full word is near enough, but does not begin with the zeros of Short.
func TestP8ZerosNotKept(t *testing.T) {
	for _, whole := range []mend.Params{
		{M: 3, Modulus: 11, First: 1, Delta: 3},
		{M: 4, Modulus: 19, First: 0, Delta: 7},
		{M: 4, Modulus: 19, First: 1, Delta: 7, Binary: true},
		{M: 5, Modulus: 37, First: 30, Delta: 9, Cut: 2},
		{M: 8, Modulus: 285, First: 3, Delta: 12, Cut: 1},
	} {
		full := newCodec(t, whole)
		_, k := full.Size()
		for short := 1; 2*short+whole.Cut < whole.Delta; short++ {
			p := whole
			p.Short = short
			codec := newCodec(t, p)
			sent, _, _ := full.Encode(slices.Repeat([]int{1}, k))
			checkLost(t, codec, sent[short:], nil)
			kept, _, _ := full.Encode(slices.Concat(make([]int, short), slices.Repeat([]int{1}, k-short)))
			checkMended(t, codec, kept[short:], nil, kept[short:])
		}
	}
}

// P8: what is missing could be had, but by greater symbols than bits, in the word
// or in what is cut off.
func TestP8BitsNotKept(t *testing.T) {
	p := mend.Params{M: 3, Modulus: 11, First: 1, Delta: 3, Binary: true}
	zeros := make([]int, 7)
	one := []int{0, 0, 0, 0, 0, 0, 1}
	codec := newCodec(t, p)
	checkLost(t, codec, one, []int{0, 1})
	checkMended(t, codec, one, []int{0, 6}, zeros)
	p.Binary = false
	greater := newCodec(t, p)
	if _, mended, errno, _ := greater.Decode(one, []int{0, 1}); errno != ok || max(mended[0], mended[1]) < 2 {
		t.Errorf("Decode(%v, [0 1]) = %v, %d: no example", one, mended, errno)
	}
	p.Binary, p.Cut = true, 1
	cut := newCodec(t, p)
	checkLost(t, cut, []int{0, 0, 0, 1, 0, 0}, []int{1})
	checkMended(t, cut, []int{0, 0, 0, 1, 0, 0}, []int{5}, []int{0, 0, 0, 1, 0, 1})
	// 0 0 1 1 0 0 3 would be the full word.
	end := newCodec(t, mend.Params{M: 3, Modulus: 11, First: 3, Delta: 3, Cut: 1, Binary: true})
	checkLost(t, end, []int{0, 0, 1, 1, 0, 0}, nil)
	checkMended(t, end, []int{1, 1, 1, 1, 1, 1}, nil, []int{1, 1, 1, 1, 1, 1})
}
