package mend

import (
	"slices"

	"mend/field"
	"mend/poly"
)

// newCodec settles the parameters in the order of their numbers.
func newCodec(p Params) (*Codec, error) {
	f, err := field.New(p.M, p.Modulus)
	if err != nil {
		return nil, fieldFault(err)
	}
	n := f.Units()
	if err := checkRange(numberFirst, p.First, 0, n-1); err != nil {
		return nil, err
	}
	if err := checkRange(numberDelta, p.Delta, 2, n); err != nil {
		return nil, err
	}
	powers := rootPowers(n, p)
	k := n - len(powers)
	if k == 0 {
		return nil, paramFault(errNoMessage, numberDelta)
	}
	if err := checkRange(numberShort, p.Short, 0, k-1); err != nil {
		return nil, err
	}
	if err := checkRange(numberCut, p.Cut, 0, p.Delta-2); err != nil {
		return nil, err
	}
	ring := poly.Over(f.Plus, f.Times)
	checkSymbol := symbolCheck(f, p.Binary)
	return &Codec{
		ring:        ring,
		checkSymbol: checkSymbol,
		generator:   ring.FromRoots(rootsAt(powers, f.Power)),
		wordSize:    n - p.Short - p.Cut,
		messageSize: k - p.Short,
		decoder:     newDecoder(f, ring, checkSymbol, p),
	}, nil
}

func checkRange(number int, value int, least int, greatest int) error {
	if value < least || value > greatest {
		return paramFault(errRange, number)
	}
	return nil
}

// rootPowers are the powers of x, each below n and none twice, at which each
// full word is 0. Those of a Binary code include the squares of its roots: a
// polynomial of bits is 0 there too.
func rootPowers(n int, p Params) []int {
	isRoot := make([]bool, n)
	for j := range p.Delta - 1 {
		markPower(isRoot, (p.First+j)%n, p.Binary)
	}
	var powers []int
	for power, is := range isRoot {
		if is {
			powers = append(powers, power)
		}
	}
	return powers
}

// markPower stops at a power that is marked: if squares belong to it, they are
// marked too.
func markPower(isRoot []bool, power int, squares bool) {
	for !isRoot[power] {
		isRoot[power] = true
		if squares {
			power = power * 2 % len(isRoot)
		}
	}
}

func rootsAt(powers []int, power func(int) int) []int {
	roots := make([]int, len(powers))
	for i, j := range powers {
		roots[i] = power(j)
	}
	return roots
}

func symbolCheck(f *field.Field, binary bool) func(int) error {
	if binary {
		return f.CheckBit
	}
	return f.CheckElement
}

// isMade tells whether New made the codec: through a pointer to none, or to one
// that was declared, the calls refuse every list as of a wrong length.
func (c *Codec) isMade() bool { return c != nil && c.generator != nil }

func (c *Codec) encode(message []int) ([]int, error) {
	_, size := c.Size()
	if err := c.checkList(message, size); err != nil {
		return nil, err
	}
	return c.wordOf(message), nil
}

func (c *Codec) check(word []int) (bool, error) {
	size, messageSize := c.Size()
	if err := c.checkList(word, size); err != nil {
		return false, err
	}
	return slices.Equal(word, c.wordOf(word[:messageSize])), nil
}

func (c *Codec) decode(word []int, lost []int) ([]int, []int, error) {
	size, messageSize := c.Size()
	if err := c.checkList(word, size); err != nil {
		return nil, nil, err
	}
	if err := checkPlaces(lost, size); err != nil {
		return nil, nil, err
	}
	mended, err := c.decoder.mend(word, lost)
	if err != nil {
		return nil, nil, lostFault(err)
	}
	return slices.Clone(mended[:messageSize]), mended, nil
}

func (c *Codec) checkList(list []int, size int) error {
	if !c.isMade() || len(list) != size {
		return lengthFault(errSize)
	}
	for place, symbol := range list {
		if err := c.checkSymbol(symbol); err != nil {
			return symbolFault(err, place)
		}
	}
	return nil
}

func checkPlaces(lost []int, size int) error {
	for i, place := range lost {
		if place < 0 || place >= size {
			return placeFault(errNoPlace, i)
		}
		if i > 0 && place <= lost[i-1] {
			return placeFault(errOrder, i)
		}
	}
	return nil
}

// wordOf is the word of a message that has been checked. The zeros that the
// code leaves out ahead of it would leave the remainder as it is, so they are
// not laid down at all.
func (c *Codec) wordOf(message []int) []int {
	dividend := make([]int, len(message)+len(c.generator)-1)
	copy(dividend, message)
	word := make([]int, c.wordSize)
	kept := copy(word, message)
	copy(word[kept:], c.ring.Remainder(dividend, c.generator)) // as many as Cut leaves room for
	return word
}
