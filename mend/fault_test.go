package mend

import (
	"errors"
	"testing"

	"mend/field"
)

func checkTold(t *testing.T, err error, wantErrno Errno, wantPlace int) {
	t.Helper()
	if errno, place := told(err); errno != wantErrno || place != wantPlace {
		t.Errorf("%v: told as %d at %d, want %d at %d", err, errno, place, wantErrno, wantPlace)
	}
}

func TestFaults(t *testing.T) {
	for _, c := range []struct {
		err   error
		cause error
		errno Errno
		place int
	}{
		{fieldFault(field.ErrDegree), field.ErrDegree, ErrParams, 1},
		{fieldFault(field.ErrModulus), field.ErrModulus, ErrParams, 2},
		{paramFault(errRange, 3), errRange, ErrParams, 3},
		{paramFault(errNoMessage, 4), errNoMessage, ErrParams, 4},
		{lengthFault(errSize), errSize, ErrLength, 0},
		{symbolFault(field.ErrElement, 7), field.ErrElement, ErrSymbol, 7},
		{symbolFault(field.ErrBit, 0), field.ErrBit, ErrSymbol, 0},
		{placeFault(errOrder, 4), errOrder, ErrPlace, 4},
		{lostFault(errTurns), errTurns, ErrLost, 0},
	} {
		checkTold(t, c.err, c.errno, c.place)
		if !errors.Is(c.err, c.cause) {
			t.Errorf("%v does not wrap %v", c.err, c.cause)
		}
	}
}

func TestToldOfWrappedFaults(t *testing.T) {
	err := errors.Join(errors.New("outer"), fieldFault(errors.Join(field.ErrDegree)))
	checkTold(t, err, ErrParams, 1)
}

func TestToldOfNothingWrong(t *testing.T) {
	checkTold(t, nil, OK, 0)
}

func TestFaultText(t *testing.T) {
	if got, want := symbolFault(field.ErrElement, 7).Error(), "mend: error 3 at 7: field: no element"; got != want {
		t.Errorf("%q, want %q", got, want)
	}
}

// The calls answer numbers alone: what they stand for is to be had inside.
func TestCausesOfRefusedParams(t *testing.T) {
	for _, c := range []struct {
		p     Params
		cause error
	}{
		{Params{M: 2, Modulus: 7, Delta: 2}, field.ErrDegree},
		{Params{M: 3, Modulus: 15, Delta: 2}, field.ErrModulus},
		{Params{M: 3, Modulus: 11, First: 7, Delta: 2}, errRange},
		{Params{M: 3, Modulus: 11, First: 0, Delta: 7, Binary: true}, errNoMessage},
	} {
		if _, err := newCodec(c.p); !errors.Is(err, c.cause) {
			t.Errorf("newCodec(%+v): %v, want %v", c.p, err, c.cause)
		}
	}
}

func TestCausesOfRefusedLists(t *testing.T) {
	elements, _ := newCodec(Params{M: 3, Modulus: 11, First: 1, Delta: 3})
	bits, _ := newCodec(Params{M: 3, Modulus: 11, First: 1, Delta: 3, Binary: true})
	if _, err := elements.encode([]int{1}); !errors.Is(err, errSize) {
		t.Errorf("%v, want %v", err, errSize)
	}
	if _, err := elements.encode([]int{1, 2, 3, 4, 8}); !errors.Is(err, field.ErrElement) {
		t.Errorf("%v, want %v", err, field.ErrElement)
	}
	if _, err := bits.encode([]int{1, 2, 0, 1}); !errors.Is(err, field.ErrBit) {
		t.Errorf("%v, want %v", err, field.ErrBit)
	}
}

func TestCausesOfRefusedWords(t *testing.T) {
	for _, c := range []struct {
		p          Params
		word, lost []int
		cause      error
	}{
		{Params{M: 3, Modulus: 11, First: 1, Delta: 3}, []int{1}, nil, errSize},
		{Params{M: 3, Modulus: 11, First: 1, Delta: 3}, []int{1, 2, 3, 4, 5, 6, 8}, nil, field.ErrElement},
		{Params{M: 3, Modulus: 11, First: 1, Delta: 3}, []int{1, 2, 3, 4, 5, 6, 7}, []int{7}, errNoPlace},
		{Params{M: 3, Modulus: 11, First: 1, Delta: 3}, []int{1, 2, 3, 4, 5, 6, 7}, []int{1, 1}, errOrder},
		{Params{M: 3, Modulus: 11, First: 1, Delta: 3}, []int{1, 2, 3, 4, 5, 6, 7}, []int{1, 2, 3}, errLosses},
		{Params{M: 3, Modulus: 11, First: 1, Delta: 7}, []int{5, 5, 5, 1, 2, 3, 4}, nil, errTurns},
		{Params{M: 3, Modulus: 11, First: 0, Delta: 3, Short: 4}, []int{0, 5, 4}, nil, errNotZero},
		{Params{M: 3, Modulus: 11, First: 1, Delta: 3, Binary: true}, []int{0, 0, 0, 0, 0, 0, 1}, []int{0, 1}, field.ErrBit},
	} {
		codec, _ := newCodec(c.p)
		if _, _, err := codec.decode(c.word, c.lost); !errors.Is(err, c.cause) {
			t.Errorf("%+v: decode(%v, %v): %v, want %v", c.p, c.word, c.lost, err, c.cause)
		}
	}
}
