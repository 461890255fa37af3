package mend

import (
	"errors"
	"strconv"

	"mend/field"
)

// What a codec refuses beside what its field does.
var (
	errRange     = errors.New("mend: outside its range")
	errNoMessage = errors.New("mend: no symbol is left for a message")
	errSize      = errors.New("mend: too many symbols or too few")
	errNoPlace   = errors.New("mend: no place of a word")
	errOrder     = errors.New("mend: not above the place ahead of it")
	errLosses    = errors.New("mend: too many places are lost")
	errTurns     = errors.New("mend: too many places are turned")
	errNotZero   = errors.New("mend: other than 0 where the code leaves out zeros")
)

// The parameters, by the numbers that New tells of them.
const (
	numberM = iota + 1
	numberModulus
	numberFirst
	numberDelta
	numberShort
	numberCut
)

// fault wraps what is wrong with the numbers that a call answers of it, so that
// the inner functions can hand on errors and only the calls speak in numbers.
type fault struct {
	errno Errno
	place int
	cause error
}

func (f *fault) Error() string {
	return "mend: error " + strconv.Itoa(int(f.errno)) + " at " + strconv.Itoa(f.place) + ": " + f.cause.Error()
}

func (f *fault) Unwrap() error { return f.cause }

// fieldFault wraps the refusal to make a field. A field knows nothing of a
// code's parameters: which one was refused is settled here.
func fieldFault(err error) error {
	if errors.Is(err, field.ErrDegree) {
		return paramFault(err, numberM)
	}
	return paramFault(err, numberModulus)
}

func paramFault(cause error, number int) error { return &fault{ErrParams, number, cause} }

func lengthFault(cause error) error { return &fault{ErrLength, 0, cause} }

func symbolFault(cause error, place int) error { return &fault{ErrSymbol, place, cause} }

func placeFault(cause error, place int) error { return &fault{ErrPlace, place, cause} }

func lostFault(cause error) error { return &fault{ErrLost, 0, cause} }

// told is what a call answers of err: its number and its place.
func told(err error) (Errno, int) {
	var f *fault
	if errors.As(err, &f) {
		return f.errno, f.place
	}
	return OK, 0
}
