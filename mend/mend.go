// Package mend: words that can be mended: see DOC.md.
package mend

import (
	"mend/field"
	"mend/poly"
)

// Errno is what a call answers: OK or the reason for a refusal.
type Errno int

const (
	OK        Errno = 0
	ErrParams Errno = 1 // a parameter that may not be
	ErrLength Errno = 2 // too many symbols, or too few
	ErrSymbol Errno = 3 // no symbol
	ErrPlace  Errno = 4 // a place that may not be
	ErrLost   Errno = 5 // no word is near enough
)

// Params are a code's.
type Params struct {
	M, Modulus, First, Delta, Short, Cut int
	Binary                               bool
}

// Times is the product of two elements (P3).
func Times(m int, modulus int, a int, b int) (int, Errno) {
	product, err := times(m, modulus, a, b)
	errno, _ := told(err)
	return product, errno
}

func times(m int, modulus int, a int, b int) (int, error) {
	f, err := field.New(m, modulus)
	if err != nil {
		return 0, fieldFault(err)
	}
	if err := f.CheckElement(a); err != nil {
		return 0, symbolFault(err, 0)
	}
	if err := f.CheckElement(b); err != nil {
		return 0, symbolFault(err, 0)
	}
	return f.Times(a, b), nil
}

// Inverse is the element whose product with a is 1 (P3).
func Inverse(m int, modulus int, a int) (int, Errno) {
	inverted, err := inverse(m, modulus, a)
	errno, _ := told(err)
	return inverted, errno
}

func inverse(m int, modulus int, a int) (int, error) {
	f, err := field.New(m, modulus)
	if err != nil {
		return 0, fieldFault(err)
	}
	if err := f.CheckUnit(a); err != nil {
		return 0, symbolFault(err, 0)
	}
	return f.Inverse(a), nil
}

// Codec encodes and decodes words of a code. Make it by New.
type Codec struct {
	ring        poly.Ring
	checkSymbol func(a int) error
	generator   []int // the full words are its multiples
	wordSize    int
	messageSize int
	decoder     *decoder
}

// New makes a codec (P4).
func New(p Params) (*Codec, Errno, int) {
	c, err := newCodec(p)
	errno, place := told(err)
	return c, errno, place
}

// Size tells how many symbols a word has, and a message (P5).
func (c *Codec) Size() (int, int) {
	if !c.isMade() {
		return 0, 0
	}
	return c.wordSize, c.messageSize
}

// Encode makes the word of a message (P6).
func (c *Codec) Encode(message []int) ([]int, Errno, int) {
	word, err := c.encode(message)
	errno, place := told(err)
	return word, errno, place
}

// Check tells whether a list is a word (P7).
func (c *Codec) Check(word []int) (bool, Errno, int) {
	is, err := c.check(word)
	errno, place := told(err)
	return is, errno, place
}

// Decode finds the message and the word that is near enough (P8).
func (c *Codec) Decode(word []int, lost []int) ([]int, []int, Errno, int) {
	message, mended, err := c.decode(word, lost)
	errno, place := told(err)
	return message, mended, errno, place
}
