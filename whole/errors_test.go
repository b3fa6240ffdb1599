// Package whole tests what holds in all layers and is no single layer's.
package whole

import (
	"errors"
	"testing"

	"transom/api"
)

// R7: an error's text is error, a blank, and its number.
func TestErrorsText(t *testing.T) {
	for _, x := range []struct {
		err  error
		want string
	}{
		{api.OK, "error 0"},
		{api.ErrOver, "error 9"},
		{api.ErrShort, "error 50"},
		{api.ErrLine, "error 320"},
		{api.Errno(-1), "error -1"},
	} {
		if x.err.Error() != x.want {
			t.Errorf("%q, not %q", x.err.Error(), x.want)
		}
	}
}

// R7: errors are compared by ==, also as values of error.
func TestErrorsAreCompared(t *testing.T) {
	var err error = api.ErrNil
	if err != api.ErrNil || err == api.ErrArg || !errors.Is(err, api.ErrNil) {
		t.Error("an error is not itself, or is another one")
	}
}

// R7: everybody's errors are from 0 to 9, those of layer n from 10 n to 10 n + 9, and no two are one.
func TestErrorsNumbers(t *testing.T) {
	seen := map[api.Errno]bool{}
	for layer, l := range map[int][]api.Errno{
		0:  {api.OK, api.ErrNil, api.ErrArg, api.ErrState, api.ErrLong, api.ErrNone, api.ErrFull, api.ErrThere, api.ErrForm, api.ErrOver},
		5:  {api.ErrShort, api.ErrVersion, api.ErrHead, api.ErrLength, api.ErrFragment, api.ErrSum},
		6:  {api.ErrOffset, api.ErrReserved},
		7:  {api.ErrOption},
		8:  {api.ErrProto, api.ErrFlags},
		32: {api.ErrLine},
	} {
		for _, e := range l {
			if int(e)/10 != layer || seen[e] {
				t.Errorf("layer %d: %d", layer, int(e))
			}
			seen[e] = true
		}
	}
}
