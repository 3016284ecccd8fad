package tests

import (
	"testing"
	"unsafe"
)

// roomy is a copy of a list with spare room behind its end, filled with a mark.
func roomy[T any](list []T, mark T) []T {
	all := append(append([]T{}, list...), mark, mark, mark)
	return all[:len(list)]
}

// whole is a copy of a list with its spare room.
func whole[T any](list []T) []T {
	return append([]T{}, list[:cap(list)]...)
}

// overwrite fills a list and its spare room.
func overwrite[T any](list []T, mark T) {
	list = list[:cap(list)]
	for i := range list {
		list[i] = mark
	}
}

// liesIn says whether a text that is not empty lies in the memory of another.
func liesIn(text, other string) bool {
	if text == "" || other == "" {
		return false
	}
	place := uintptr(unsafe.Pointer(unsafe.StringData(text)))
	first := uintptr(unsafe.Pointer(unsafe.StringData(other)))
	return place >= first && place < first+uintptr(len(other))
}

func newText(t *testing.T, what, text, other string) {
	t.Helper()
	if liesIn(text, other) {
		t.Errorf("%s: the text lies in an argument", what)
	}
}
