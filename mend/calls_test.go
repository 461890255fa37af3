package mend_test

import (
	"testing"

	"mend/mend"
)

// The calls that the document lists, as it lists them: another signature does not compile.
var (
	_ func(int, int, int, int) (int, mend.Errno)                      = mend.Times
	_ func(int, int, int) (int, mend.Errno)                           = mend.Inverse
	_ func(mend.Params) (*mend.Codec, mend.Errno, int)                = mend.New
	_ func(*mend.Codec) (int, int)                                    = (*mend.Codec).Size
	_ func(*mend.Codec, []int) ([]int, mend.Errno, int)               = (*mend.Codec).Encode
	_ func(*mend.Codec, []int) (bool, mend.Errno, int)                = (*mend.Codec).Check
	_ func(*mend.Codec, []int, []int) ([]int, []int, mend.Errno, int) = (*mend.Codec).Decode
	_ struct {
		M, Modulus, First, Delta, Short, Cut int
		Binary                               bool
	} = mend.Params{}
)

func TestErrnoConstants(t *testing.T) {
	got := [...]mend.Errno{mend.OK, mend.ErrParams, mend.ErrLength, mend.ErrSymbol, mend.ErrPlace, mend.ErrLost}
	for want, errno := range got {
		if int(errno) != want {
			t.Errorf("constant %d of Errno is %d", want, int(errno))
		}
	}
}
