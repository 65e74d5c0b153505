package tests

import (
	"reflect"
	"slices"
	"testing"

	"loop.example/g00799/impl"
)

// guard is a list as an argument: what stands ahead of it and behind it in the same memory is watched, too.
type guard[T byte | int64] struct {
	whole []T
	was   []T
	size  int
}

const guardRim = 16

func newGuard[T byte | int64](data []T) *guard[T] {
	whole := make([]T, len(data)+2*guardRim)
	for i := range whole {
		whole[i] = T(0xA0 + i)
	}
	copy(whole[guardRim:], data)
	return &guard[T]{whole: whole, was: slices.Clone(whole), size: len(data)}
}

// list has room behind its end, so an append to it would write into the watched memory.
func (g *guard[T]) list() []T {
	return g.whole[guardRim : guardRim+g.size]
}

func (g *guard[T]) mustBeSame(t *testing.T, name string) {
	t.Helper()
	if !slices.Equal(g.whole, g.was) {
		t.Errorf("%s: an argument was changed, or shares memory with what was answered", name)
	}
}

// overwrite changes all that can be reached from a list, also what is behind its end.
func overwrite[T byte | int64](data []T) {
	data = data[:cap(data)]
	for i := range data {
		data[i] ^= 0xFF
	}
}

// itemsGuard is a list of items as an argument: the list and the bytes of each item are watched, and what stands about them in the same memory.
type itemsGuard struct {
	whole []impl.Item
	was   []impl.Item
	bytes []*guard[byte]
	size  int
}

func newItemsGuard(items []impl.Item) *itemsGuard {
	g := &itemsGuard{whole: make([]impl.Item, len(items)+2*guardRim), size: len(items)}
	for i := range g.whole {
		g.whole[i].Kind = int64(0xA0 + i)
	}
	for i, x := range items {
		data := newGuard(x.Bytes)
		x.Bytes = data.list()
		g.whole[guardRim+i] = x
		g.bytes = append(g.bytes, data)
	}
	g.was = cloneItems(g.whole)
	return g
}

func (g *itemsGuard) list() []impl.Item {
	return g.whole[guardRim : guardRim+g.size]
}

func (g *itemsGuard) mustBeSame(t *testing.T, name string) {
	t.Helper()
	for _, data := range g.bytes {
		data.mustBeSame(t, name)
	}
	if !reflect.DeepEqual(g.whole, g.was) {
		t.Errorf("%s: a list of items was changed, or shares memory with what was answered", name)
	}
}

func overwriteItems(items []impl.Item) {
	items = items[:cap(items)]
	for i := range items {
		overwrite(items[i].Bytes)
		items[i] = impl.Item{Kind: ^items[i].Kind, Cols: ^items[i].Cols, Rows: ^items[i].Rows}
	}
}

func overwriteAtoms(atoms []impl.Atom) {
	atoms = atoms[:cap(atoms)]
	for i, a := range atoms {
		atoms[i] = impl.Atom{Kind: ^a.Kind, A: ^a.A, B: ^a.B}
	}
}

// countedBytes makes n bytes that differ from their neighbours, and for each seed others.
func countedBytes(n int, seed byte) []byte {
	data := make([]byte, n)
	for i := range data {
		data[i] = byte(i)*37 + seed
	}
	return data
}
