package tests

import (
	"fmt"
	"math/rand"
	"reflect"
	"strings"
	"testing"
	"unsafe"
)

// is tells a fault when what was answered is not what the document asks for.
func is(t *testing.T, what string, got any, want any) {
	t.Helper()
	if !reflect.DeepEqual(got, want) {
		t.Errorf("%s: got %s, want %s", what, told(got), told(want))
	}
}

// told cuts what is long: only its beginning helps a reader.
func told(v any) string {
	out := fmt.Sprintf("%#v", v)
	if len(out) > 200 {
		return out[:200] + ".."
	}
	return out
}

// sameDraws gives the same row of draws in each run, so that a test that fails fails again.
func sameDraws() *rand.Rand {
	return rand.New(rand.NewSource(1))
}

// anyText draws a text of so many bytes, each of them any byte.
func anyText(draws *rand.Rand, size int) string {
	out := make([]byte, size)
	for i := range out {
		out[i] = byte(draws.Intn(256))
	}
	return string(out)
}

// longText has so many bytes.
func longText(size int) string {
	return strings.Repeat("x", size)
}

// remade is a value in memory of its own; how a list of so many items is made is told.
func remade(v reflect.Value, list func(reflect.Type, int) reflect.Value) reflect.Value {
	switch v.Kind() {
	case reflect.Slice:
		out := list(v.Type(), v.Len())
		for i := range v.Len() {
			out.Index(i).Set(remade(v.Index(i), list))
		}
		return out
	case reflect.Struct:
		out := reflect.New(v.Type()).Elem()
		for i := range v.NumField() {
			out.Field(i).Set(remade(v.Field(i), list))
		}
		return out
	default:
		return v
	}
}

// plain is a copy that no call can reach; none stands for each empty list, for both are the same.
func plain[T any](v T) T {
	list := func(kind reflect.Type, size int) reflect.Value {
		if size == 0 {
			return reflect.Zero(kind)
		}
		return reflect.MakeSlice(kind, size, size)
	}
	return remade(reflect.ValueOf(v), list).Interface().(T)
}

// roomSize is how many items the lists of roomy have room for behind their end.
const roomSize = 30

// roomy is a copy whose lists have room behind their end, with nothing in it.
func roomy[T any](v T) T {
	list := func(kind reflect.Type, size int) reflect.Value {
		return reflect.MakeSlice(kind, size, size+roomSize)
	}
	return remade(reflect.ValueOf(v), list).Interface().(T)
}

// roomEmpty tells whether nothing stands behind the end of any list.
func roomEmpty(v reflect.Value) bool {
	switch v.Kind() {
	case reflect.Slice:
		room := v.Slice(0, v.Cap())
		for i := range room.Len() {
			if i < v.Len() && !roomEmpty(v.Index(i)) || i >= v.Len() && !room.Index(i).IsZero() {
				return false
			}
		}
	case reflect.Struct:
		for i := range v.NumField() {
			if !roomEmpty(v.Field(i)) {
				return false
			}
		}
	}
	return true
}

// span is where a list, with the room behind its end, or a text lies.
type span struct {
	from uintptr
	to   uintptr
	text bool
}

// spansOf tells where all lists and texts of a value lie. Texts of one byte are left out: the language keeps one of each for all.
func spansOf(v reflect.Value) []span {
	var out []span
	switch v.Kind() {
	case reflect.String:
		if text := v.String(); len(text) > 1 {
			from := uintptr(unsafe.Pointer(unsafe.StringData(text)))
			out = append(out, span{from: from, to: from + uintptr(len(text)), text: true})
		}
	case reflect.Slice:
		if v.Cap() > 0 {
			out = append(out, span{from: v.Pointer(), to: v.Pointer() + uintptr(v.Cap())*v.Type().Elem().Size()})
		}
		for i := range v.Len() {
			out = append(out, spansOf(v.Index(i))...)
		}
	case reflect.Struct:
		for i := range v.NumField() {
			out = append(out, spansOf(v.Field(i))...)
		}
	}
	return out
}

// meet tells whether two lie on each other.
func (s span) meet(other span) bool {
	return s.from < other.to && other.from < s.to
}

// isNew asks that an answer shares no memory with what was handed in, and that no two lists of it share any.
func isNew(t *testing.T, what string, answer any, given ...any) {
	t.Helper()
	own := spansOf(reflect.ValueOf(answer))
	for _, arg := range given {
		for _, theirs := range spansOf(reflect.ValueOf(arg)) {
			for _, ours := range own {
				if ours.meet(theirs) {
					t.Errorf("%s: the answer shares memory with what was handed in", what)
					return
				}
			}
		}
	}
	for i, one := range own {
		for _, two := range own[:i] {
			if !one.text && !two.text && one.meet(two) {
				t.Errorf("%s: two lists of the answer share memory", what)
				return
			}
		}
	}
}
