// Package checks: what holds of the whole project, beside what each package does.
package checks

import (
	"crypto/sha256"
	"encoding/hex"
	"errors"
	"os"
	"testing"

	"nurserypy/api"
	"nurserypy/plain"
)

// Packages api and plain stay to the byte.
func TestGivenFiles(t *testing.T) {
	for file, want := range map[string]string{
		"../api/api.go":     "caf2a684aa7d96a22916b5c987998fc4bb3af07986aab3bfa475f9ca56db54cd",
		"../plain/plain.go": "ecd9add66dffd452c53654fa45d7cfc070e5fc7b8951dcf1d88a7173b4538531",
	} {
		b, err := os.ReadFile(file)
		if err != nil {
			t.Fatal(err)
		}
		if sum := sha256.Sum256(b); hex.EncodeToString(sum[:]) != want {
			t.Errorf("%s has changed", file)
		}
	}
}

// P5: the bounds have their numbers.
func TestBounds(t *testing.T) {
	got := []int{api.MaxSource, api.MaxName, api.MaxDeep, api.MaxSmall, api.MaxFuel, api.MaxCalls, api.MaxNest, api.MaxLength, api.MaxOutput, api.MaxInput, api.MaxCode, api.MaxWords, api.MaxFields, api.MaxRoots, api.MaxActs, api.MaxRuns, api.Workers}
	for i, want := range []int{6000, 16, 12, 1 << 61, 100000, 60, 20, 2000, 20000, 50, 20000, 1 << 16, 4096, 5000, 400, 40, 16} {
		if got[i] != want {
			t.Errorf("bound %d: %d, want %d", i, got[i], want)
		}
	}
	if api.Pointer != 0 || api.Small != 1 || api.Const != 2 || api.Header != 3 || api.None != 0 || api.False != 1 || api.True != 2 {
		t.Error("kinds of words, or constants, have other numbers")
	}
}

// P5, P3: the errors have their texts and their numbers, bare and with a place.
func TestErrors(t *testing.T) {
	texts := []string{"text", "bound", "shape", "name", "place", "full", "none"}
	for i, err := range []error{api.ErrText, api.ErrBound, api.ErrShape, api.ErrName, api.ErrPlace, api.ErrFull, api.ErrNone} {
		if err.Error() != "nurserypy: "+texts[i] {
			t.Errorf("error %d: %v", i, err)
		}
		if code, at := plain.Code(err); code != i+1 || at != -1 {
			t.Errorf("%v: %d, %d", err, code, at)
		}
		fault := &api.Fault{At: 9, Err: err}
		if code, at := plain.Code(fault); code != i+1 || at != 9 || !errors.Is(fault, err) || fault.Error() != err.Error() {
			t.Errorf("%v with a place: %d, %d", err, code, at)
		}
	}
	if code, at := plain.Code(nil); code != 0 || at != -1 {
		t.Errorf("no error: %d, %d", code, at)
	}
	if code, at := plain.Code(errors.New("another one")); code != -1 || at != -1 {
		t.Errorf("another error: %d, %d", code, at)
	}
}
