package tests

import (
	"bytes"
	"strings"
	"testing"
	"unsafe"
)

// wantText holds the text and the flag together: beside a false the text must be empty.
func wantText(t *testing.T, call, got string, ok bool, want string, wantOk bool) {
	t.Helper()
	if got != want || ok != wantOk {
		t.Errorf("%s: %.60q, %t; want %.60q, %t", call, got, ok, want, wantOk)
	}
}

// argument is a text that lies inside bytes the test can look at, with spare room on both sides.
type argument struct {
	text   string
	whole  []byte
	before []byte
}

func newArgument(s string) argument {
	const spare = 16
	whole := []byte(strings.Repeat("<", spare) + s + strings.Repeat(">", spare))
	return argument{
		text:   unsafe.String(&whole[spare], len(s)),
		whole:  whole,
		before: bytes.Clone(whole),
	}
}

// untouched fails when the argument was written to, or when an answer lies in its memory.
func (a argument) untouched(t *testing.T, call string, answers ...string) {
	t.Helper()
	if !bytes.Equal(a.whole, a.before) {
		t.Errorf("%s of %.60q: wrote into its argument", call, a.text)
	}
	from := uintptr(unsafe.Pointer(&a.whole[0]))
	to := from + uintptr(len(a.whole))
	for _, s := range answers {
		if len(s) == 0 {
			continue
		}
		first := uintptr(unsafe.Pointer(unsafe.StringData(s)))
		if first < to && first+uintptr(len(s)) > from {
			t.Errorf("%s of %.60q: the answer %.60q shares memory with it", call, a.text, s)
		}
	}
}

// overlap tells whether two lists share memory, spare room and all.
func overlap[T any](a, b []T) bool {
	if cap(a) == 0 || cap(b) == 0 {
		return false
	}
	size := unsafe.Sizeof(a[:1][0])
	fromA := uintptr(unsafe.Pointer(unsafe.SliceData(a)))
	fromB := uintptr(unsafe.Pointer(unsafe.SliceData(b)))
	return fromA < fromB+uintptr(cap(b))*size && fromB < fromA+uintptr(cap(a))*size
}

// bytesOf is the very memory of a text, to be looked at alone.
func bytesOf(s string) []byte {
	return unsafe.Slice(unsafe.StringData(s), len(s))
}

// memoryOf is the room of a list, spare room and all, so that lists of different kinds can be held against each other.
func memoryOf[T any](list []T) []byte {
	if cap(list) == 0 {
		return nil
	}
	return unsafe.Slice((*byte)(unsafe.Pointer(unsafe.SliceData(list))), cap(list)*int(unsafe.Sizeof(list[:1][0])))
}
