package mend

import (
	"errors"
	"testing"

	"mend/field"
)

func TestFieldFault(t *testing.T) {
	for _, c := range []struct {
		cause error
		want  Errno
	}{
		{field.ErrDegree, ErrParams},
		{field.ErrModulus, ErrParams},
		{field.ErrElement, ErrSymbol},
		{field.ErrZero, ErrSymbol},
	} {
		err := fieldFault(c.cause)
		if got := errnoOf(err); got != c.want {
			t.Errorf("%v: errno %d, want %d", err, got, c.want)
		}
		if !errors.Is(err, c.cause) {
			t.Errorf("%v does not wrap %v", err, c.cause)
		}
	}
}

func TestErrnoOfWrappedFault(t *testing.T) {
	err := errors.Join(errors.New("outer"), fieldFault(field.ErrZero))
	if got := errnoOf(err); got != ErrSymbol {
		t.Errorf("errno %d, want %d", got, ErrSymbol)
	}
}

func TestErrnoOfNothingWrong(t *testing.T) {
	if got := errnoOf(nil); got != OK {
		t.Errorf("errno %d, want %d", got, OK)
	}
}

func TestFaultText(t *testing.T) {
	if got, want := fieldFault(field.ErrZero).Error(), "mend: error 3: field: 0 has no inverse"; got != want {
		t.Errorf("%q, want %q", got, want)
	}
}
