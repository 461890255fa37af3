package mend

import (
	"errors"
	"strconv"

	"mend/field"
)

// fault wraps what is wrong with the number that a call answers of it, so that
// the inner functions can hand on errors and only the calls speak in numbers.
type fault struct {
	errno Errno
	cause error
}

func (f *fault) Error() string {
	return "mend: error " + strconv.Itoa(int(f.errno)) + ": " + f.cause.Error()
}

func (f *fault) Unwrap() error { return f.cause }

// fieldFault wraps what a field refuses. A field knows nothing of a call's
// numbers: whether a parameter or a symbol was refused is settled here.
func fieldFault(err error) error {
	if errors.Is(err, field.ErrElement) || errors.Is(err, field.ErrZero) {
		return &fault{ErrSymbol, err}
	}
	return &fault{ErrParams, err}
}

// errnoOf is the number that a call answers of err.
func errnoOf(err error) Errno {
	var f *fault
	if errors.As(err, &f) {
		return f.errno
	}
	return OK
}
