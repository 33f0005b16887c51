package tests

import (
	"fmt"
	"math/rand"
	"reflect"
	"strings"
	"testing"
)

// is tells a fault when what was answered is not what the document asks for.
func is(t *testing.T, what string, got any, want any) {
	t.Helper()
	if !reflect.DeepEqual(got, want) {
		t.Errorf("%s: got %s, want %s", what, told(got), told(want))
	}
}

// told cuts what is long: only its beginning helps a reader.
func told(v any) string {
	out := fmt.Sprintf("%#v", v)
	if len(out) > 200 {
		return out[:200] + ".."
	}
	return out
}

// sameDraws gives the same row of draws in each run, so that a test that fails fails again.
func sameDraws() *rand.Rand {
	return rand.New(rand.NewSource(1))
}

// anyText draws a text of so many bytes, each of them any byte.
func anyText(draws *rand.Rand, size int) string {
	out := make([]byte, size)
	for i := range out {
		out[i] = byte(draws.Intn(256))
	}
	return string(out)
}

// longText has so many bytes.
func longText(size int) string {
	return strings.Repeat("x", size)
}
