// Package given tests what is given whole: packages api and plain. It stands beside them, so that their folders stay as they are.
package given

import (
	"crypto/sha256"
	"encoding/hex"
	"errors"
	"os"
	"testing"

	"deedbox/api"
	"deedbox/plain"
)

// P5: the numbers.
func TestConstants(t *testing.T) {
	for _, c := range []struct {
		name      string
		got, want int
	}{
		{"MaxNum", api.MaxNum, 1073741824},
		{"MaxName", api.MaxName, 8},
		{"MaxRows", api.MaxRows, 40},
		{"MaxFiles", api.MaxFiles, 60},
		{"MaxSnaps", api.MaxSnaps, 40},
		{"MaxText", api.MaxText, 20000},
		{"MaxObjects", api.MaxObjects, 200},
		{"MaxBytes", api.MaxBytes, 262144},
		{"MaxDay", api.MaxDay, 100000},
		{"MaxScript", api.MaxScript, 80},
		{"Workers", api.Workers, 16},
	} {
		if c.got != c.want {
			t.Errorf("%s is %d, not %d", c.name, c.got, c.want)
		}
	}
}

// P5: the texts; and plain tells each error by its number, with and without a place.
func TestErrors(t *testing.T) {
	for i, c := range []struct {
		err  error
		text string
	}{
		{api.ErrText, "deedbox: text"},
		{api.ErrBound, "deedbox: bound"},
		{api.ErrShape, "deedbox: shape"},
		{api.ErrKind, "deedbox: kind"},
		{api.ErrName, "deedbox: name"},
		{api.ErrNone, "deedbox: none"},
		{api.ErrExist, "deedbox: exist"},
		{api.ErrFull, "deedbox: full"},
		{api.ErrOrder, "deedbox: order"},
		{api.ErrSum, "deedbox: sum"},
		{api.ErrStale, "deedbox: stale"},
		{api.ErrOff, "deedbox: off"},
	} {
		if c.err.Error() != c.text {
			t.Errorf("%q, not %q", c.err, c.text)
		}
		if code, at := plain.Code(c.err); code != i+1 || at != -1 {
			t.Errorf("%q: code %d at %d", c.text, code, at)
		}
		fault := &api.Fault{At: 7, Err: c.err}
		if code, at := plain.Code(fault); code != i+1 || at != 7 || fault.Error() != c.text || !errors.Is(fault, c.err) {
			t.Errorf("fault of %q: code %d at %d", c.text, code, at)
		}
	}
	if code, at := plain.Code(nil); code != 0 || at != -1 {
		t.Errorf("nil: code %d at %d", code, at)
	}
	if code, at := plain.Code(errors.New("another one")); code != -1 || at != -1 {
		t.Errorf("another one: code %d at %d", code, at)
	}
}

// What is given whole stays to the byte.
func TestBytes(t *testing.T) {
	for path, want := range map[string]string{
		"../api/api.go":     "70e668a7f52263ae8371d3fa1b6611647e1fbeffa0cc27cb5482e8e4185c5260",
		"../plain/plain.go": "56a714675e9c4396ffdc762fdcc3f39f94540efb6ac9b03b3f93b3b25296ffde",
	} {
		text, err := os.ReadFile(path)
		if err != nil {
			t.Fatal(err)
		}
		if sum := sha256.Sum256(text); hex.EncodeToString(sum[:]) != want {
			t.Errorf("%s has changed", path)
		}
	}
}
