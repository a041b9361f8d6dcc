package tests

import (
	"slices"
	"testing"
)

// handling is what a test of memory sharing needs to know of one type of states.
type handling[S any] struct {
	same   func(a, b S) bool
	copied func(S) S
	// roomy is the same state with spare capacity behind every slice.
	roomy func(S) S
	// whole is all memory of a state, spare capacity included, as a state.
	whole func(S) S
	// spoil writes to all memory of a state.
	spoil func(S)
}

// apart checks that results share no memory with the argument, or with each other, spare capacity included.
func (h handling[S]) apart(t *testing.T, s S, call func(S) S) {
	t.Helper()
	arg := h.roomy(s)
	before := h.copied(h.whole(arg))
	first, second := call(arg), call(arg)
	want := h.copied(first)
	h.spoil(second)
	if !h.same(h.whole(arg), before) {
		t.Fatalf("%v: the argument is written to, or changes with the result", s)
	}
	if !h.same(first, want) {
		t.Fatalf("%v: two results share memory", s)
	}
	h.spoil(arg)
	if !h.same(first, want) {
		t.Fatalf("%v: the result changes with the argument", s)
	}
}

// withRoom is the same list in memory of its own, with spare capacity behind it.
func withRoom[T any](list []T) []T {
	return append(slices.Clone(list), make([]T, 9)...)[:len(list)]
}

// spoilWords writes to all of a list.
func spoilWords(list []int) {
	for k := range list {
		list[k] = -7
	}
}

// listsApart checks that no two of the lists share memory, spare capacity included.
func listsApart(t *testing.T, lists ...[]int) {
	t.Helper()
	for k, list := range lists {
		list = list[:cap(list)]
		for i := range list {
			list[i] = k
		}
	}
	for k, list := range lists {
		for _, n := range list[:cap(list)] {
			if n != k {
				t.Fatalf("list %d shares memory with list %d", k, n)
			}
		}
	}
}
