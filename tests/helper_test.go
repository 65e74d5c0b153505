package tests

import (
	"slices"
	"testing"
)

// guard is a list as an argument: what stands ahead of it and behind it in the same memory is watched, too.
type guard[T byte | int64] struct {
	whole []T
	was   []T
	size  int
}

const guardRim = 16

func newGuard[T byte | int64](data []T) *guard[T] {
	whole := make([]T, len(data)+2*guardRim)
	for i := range whole {
		whole[i] = T(0xA0 + i)
	}
	copy(whole[guardRim:], data)
	return &guard[T]{whole: whole, was: slices.Clone(whole), size: len(data)}
}

// list has room behind its end, so an append to it would write into the watched memory.
func (g *guard[T]) list() []T {
	return g.whole[guardRim : guardRim+g.size]
}

func (g *guard[T]) mustBeSame(t *testing.T, name string) {
	t.Helper()
	if !slices.Equal(g.whole, g.was) {
		t.Errorf("%s: an argument was changed, or shares memory with what was answered", name)
	}
}

// overwrite changes all that can be reached from a list, also what is behind its end.
func overwrite[T byte | int64](data []T) {
	data = data[:cap(data)]
	for i := range data {
		data[i] ^= 0xFF
	}
}

// countedBytes makes n bytes that differ from their neighbours, and for each seed others.
func countedBytes(n int, seed byte) []byte {
	data := make([]byte, n)
	for i := range data {
		data[i] = byte(i)*37 + seed
	}
	return data
}
