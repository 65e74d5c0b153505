package tests

import (
	"bytes"
	"fmt"
	"math"
	"math/rand/v2"
	"slices"
	"strings"
	"sync"
	"testing"

	"loop.example/g00799/impl"
)

// outOfCells are neither Cols nor Rows, whatever the item.
var outOfCells = []int64{0, -1, -2, -80, -999, 1000, 1001, 65535, 65536, 1 << 32, 1<<32 + 80, math.MaxInt64, math.MinInt64, math.MinInt64 + 1}

// otherKinds are no kinds; some of them are so only by their higher bits.
var otherKinds = []int64{0, 3, 4, -1, -2, 255, 256, 257, 258, 1 << 32, 1<<32 + 1, 1<<32 + 2, math.MaxInt64, math.MinInt64, math.MinInt64 + 1}

func keyOf(text string) impl.Item {
	return impl.Item{Kind: impl.ItemKey, Bytes: []byte(text)}
}

func sizeOf(cols int64, rows int64) impl.Item {
	return impl.Item{Kind: impl.ItemSize, Cols: cols, Rows: rows}
}

func logOf(base int64, items ...impl.Item) impl.Log {
	return impl.Log{Base: base, Items: items}
}

// someItems makes n items that differ from each other, of both kinds and of all lengths.
func someItems(n int) []impl.Item {
	var items []impl.Item
	for i := range n {
		if i%3 == 2 {
			items = append(items, sizeOf(int64(i+1), int64(999-i)))
			continue
		}
		items = append(items, impl.Item{Kind: impl.ItemKey, Bytes: countedBytes(i%8+1, byte(i))})
	}
	return items
}

// faultyItems has items of each code.
func faultyItems() map[int64][]impl.Item {
	return map[int64][]impl.Item{
		impl.ErrForm:  {{}, {Kind: 3, Bytes: []byte("a")}, {Kind: impl.ItemKey, Bytes: []byte("a"), Cols: 1}, {Kind: impl.ItemSize, Bytes: []byte("a"), Cols: 1, Rows: 1}},
		impl.ErrMany:  {keyOf(""), keyOf("123456789")},
		impl.ErrRange: {sizeOf(0, 1), sizeOf(1, 1000)},
	}
}

// trueItemFault goes by the words of the document.
func trueItemFault(x impl.Item) int64 {
	isKey, isSize := x.Kind == 1, x.Kind == 2
	switch {
	case !isKey && !isSize, isKey && (x.Cols != 0 || x.Rows != 0), isSize && len(x.Bytes) > 0:
		return impl.ErrForm
	case isKey && (len(x.Bytes) < 1 || len(x.Bytes) > 8):
		return impl.ErrMany
	case isSize && (min(x.Cols, x.Rows) < 1 || max(x.Cols, x.Rows) > 999):
		return impl.ErrRange
	}
	return impl.OK
}

func trueLogFault(l impl.Log, room int64) int64 {
	many := int64(len(l.Items))
	if room < 1 || room > 16 || l.Base < 0 || l.Base > 9000 {
		return impl.ErrRange
	}
	if many > room {
		return impl.ErrMany
	}
	for _, x := range l.Items {
		if code := trueItemFault(x); code != impl.OK {
			return code
		}
	}
	if l.Base > 9000-many {
		return impl.ErrFull
	}
	return impl.OK
}

func trueAddCode(l impl.Log, room int64, x impl.Item) int64 {
	if code := trueLogFault(l, room); code != impl.OK {
		return code
	}
	if code := trueItemFault(x); code != impl.OK {
		return code
	}
	switch int64(len(l.Items)) {
	case 9000 - l.Base:
		return impl.ErrState
	case room:
		return impl.ErrFull
	}
	return impl.OK
}

func trueTrimCode(l impl.Log, room int64, to int64) int64 {
	if code := trueLogFault(l, room); code != impl.OK {
		return code
	}
	if to < l.Base || to > l.Base+int64(len(l.Items)) {
		return impl.ErrRange
	}
	return impl.OK
}

// diary tells a log otherwise than the program: it keeps all that was ever typed, and how many of these are gone.
type diary struct {
	start int64
	typed []impl.Item
	gone  int
}

func (d *diary) log() impl.Log {
	return impl.Log{Base: d.start + int64(d.gone), Items: d.typed[d.gone:]}
}

func isItem(a impl.Item, b impl.Item) bool {
	return a.Kind == b.Kind && a.Cols == b.Cols && a.Rows == b.Rows && bytes.Equal(a.Bytes, b.Bytes)
}

func isLog(l impl.Log, base int64, items []impl.Item) bool {
	return l.Base == base && slices.EqualFunc(l.Items, items, isItem)
}

func wantLog(t *testing.T, name string, got impl.LogResult, base int64, items ...impl.Item) {
	t.Helper()
	if got.Code != impl.OK || !isLog(got.Log, base, items) {
		t.Errorf("%s: %+v; want code 0, Base %d, Items %+v", name, got, base, items)
	}
}

func wantLogFault(t *testing.T, name string, got impl.LogResult, code int64) {
	t.Helper()
	if got.Code != code || !isLog(got.Log, 0, nil) {
		t.Errorf("%s: %+v; want code %d and zeros", name, got, code)
	}
}

func wantAtoms(t *testing.T, name string, got impl.AtomsResult, want ...impl.Atom) {
	t.Helper()
	if got.Code != impl.OK || !slices.Equal(got.Atoms, want) {
		t.Errorf("%s: %+v; want code 0, Atoms %+v", name, got, want)
	}
}

func wantAtomsFault(t *testing.T, name string, got impl.AtomsResult, code int64) {
	t.Helper()
	if got.Code != code || len(got.Atoms) != 0 {
		t.Errorf("%s: %+v; want code %d and no atoms", name, got, code)
	}
}

// wantItemFault asks all functions that look at an item by itself.
func wantItemFault(t *testing.T, x impl.Item, want int64) {
	t.Helper()
	if code := impl.ItemFault(x); code != want {
		t.Errorf("ItemFault of %+v: code %d; want %d", x, code, want)
	}
	if code := impl.LogFault(logOf(0, x), 1); code != want {
		t.Errorf("LogFault with %+v: code %d; want %d", x, code, want)
	}
	if want == impl.OK {
		wantLog(t, fmt.Sprintf("AddItem of %+v", x), impl.AddItem(impl.Log{}, 1, x), 0, x)
		return
	}
	wantAtomsFault(t, fmt.Sprintf("AtomsOf %+v", x), impl.AtomsOf([]impl.Item{x}), want)
	wantLogFault(t, fmt.Sprintf("AddItem of %+v", x), impl.AddItem(impl.Log{}, 1, x), want)
}

// wantBadLog asks all three functions of a log: its fault comes ahead of whatever else is asked.
func wantBadLog(t *testing.T, l impl.Log, room int64, want int64) {
	t.Helper()
	if code := impl.LogFault(l, room); code != want {
		t.Errorf("LogFault of %+v with room %d: code %d; want %d", l, room, code, want)
	}
	for _, x := range []impl.Item{keyOf("x"), sizeOf(1, 1), {}, keyOf(""), sizeOf(0, 0)} {
		wantLogFault(t, fmt.Sprintf("AddItem of %+v to %+v with room %d", x, l, room), impl.AddItem(l, room, x), want)
	}
	for _, to := range []int64{l.Base, l.Base + 1, l.Base - 1, 0, 9000, math.MaxInt64, math.MinInt64} {
		wantLogFault(t, fmt.Sprintf("TrimLog to %d of %+v with room %d", to, l, room), impl.TrimLog(l, room, to), want)
	}
}

func wantGoodLog(t *testing.T, l impl.Log, room int64) {
	t.Helper()
	if code := impl.LogFault(l, room); code != impl.OK {
		t.Errorf("LogFault of %+v with room %d: code %d", l, room, code)
	}
	wantLog(t, fmt.Sprintf("TrimLog to Base of %+v", l), impl.TrimLog(l, room, l.Base), l.Base, l.Items...)
}

func TestItemNumbers(t *testing.T) {
	got := []int64{impl.ItemKey, impl.ItemSize, impl.MaxKey, impl.MaxCell, impl.MaxOffset}
	if want := []int64{1, 2, 8, 999, 9000}; !slices.Equal(got, want) {
		t.Errorf("ItemKey, ItemSize, MaxKey, MaxCell and MaxOffset are %v; want %v", got, want)
	}
}

func TestItemsThatAreSo(t *testing.T) {
	for n := 1; n <= 8; n++ {
		wantItemFault(t, impl.Item{Kind: impl.ItemKey, Bytes: countedBytes(n, 7)}, impl.OK)
	}
	for b := range 256 {
		wantItemFault(t, impl.Item{Kind: impl.ItemKey, Bytes: []byte{byte(b)}}, impl.OK)
	}
	for n := int64(1); n <= 999; n++ {
		wantItemFault(t, sizeOf(n, 1), impl.OK)
		wantItemFault(t, sizeOf(1, n), impl.OK)
		wantItemFault(t, sizeOf(n, 1000-n), impl.OK)
	}
	wantItemFault(t, sizeOf(999, 999), impl.OK)
	wantItemFault(t, impl.Item{Kind: impl.ItemSize, Bytes: []byte{}, Cols: 80, Rows: 24}, impl.OK)
}

func TestItemsOfOtherKinds(t *testing.T) {
	for _, kind := range otherKinds {
		wantItemFault(t, impl.Item{Kind: kind}, impl.ErrForm)
		wantItemFault(t, impl.Item{Kind: kind, Bytes: []byte("a")}, impl.ErrForm)
		wantItemFault(t, impl.Item{Kind: kind, Cols: 80, Rows: 24}, impl.ErrForm)
		wantItemFault(t, impl.Item{Kind: kind, Bytes: []byte("123456789"), Cols: 1000, Rows: -1}, impl.ErrForm)
	}
}

func TestFieldsOfTheOtherKind(t *testing.T) {
	for _, n := range []int64{1, -1, 2, 80, 999, 1000, 256, 1 << 32, math.MaxInt64, math.MinInt64} {
		for _, text := range []string{"", "a", "12345678", "123456789"} {
			wantItemFault(t, impl.Item{Kind: impl.ItemKey, Bytes: []byte(text), Cols: n}, impl.ErrForm)
			wantItemFault(t, impl.Item{Kind: impl.ItemKey, Bytes: []byte(text), Rows: n}, impl.ErrForm)
			wantItemFault(t, impl.Item{Kind: impl.ItemKey, Bytes: []byte(text), Cols: n, Rows: -n}, impl.ErrForm)
		}
	}
	for _, text := range []string{"\x00", "a", "12345678", "123456789"} {
		wantItemFault(t, impl.Item{Kind: impl.ItemSize, Bytes: []byte(text), Cols: 80, Rows: 24}, impl.ErrForm)
		wantItemFault(t, impl.Item{Kind: impl.ItemSize, Bytes: []byte(text)}, impl.ErrForm)
		wantItemFault(t, impl.Item{Kind: impl.ItemSize, Bytes: []byte(text), Cols: 0, Rows: 24}, impl.ErrForm)
		wantItemFault(t, impl.Item{Kind: impl.ItemSize, Bytes: []byte(text), Cols: 80, Rows: 1000}, impl.ErrForm)
	}
}

func TestHowManyBytesAKeyHas(t *testing.T) {
	wantItemFault(t, impl.Item{Kind: impl.ItemKey}, impl.ErrMany)
	wantItemFault(t, impl.Item{Kind: impl.ItemKey, Bytes: []byte{}}, impl.ErrMany)
	wantItemFault(t, keyOf("a"), impl.OK)
	wantItemFault(t, keyOf("12345678"), impl.OK)
	for _, n := range []int{9, 10, 16, 255, 256, 257, 264, 300, 65536, 65537, 100000} {
		wantItemFault(t, impl.Item{Kind: impl.ItemKey, Bytes: make([]byte, n)}, impl.ErrMany)
	}
}

func TestCellsOutOfBounds(t *testing.T) {
	for _, n := range outOfCells {
		for _, good := range []int64{1, 24, 999} {
			wantItemFault(t, sizeOf(n, good), impl.ErrRange)
			wantItemFault(t, sizeOf(good, n), impl.ErrRange)
		}
		wantItemFault(t, sizeOf(n, n), impl.ErrRange)
		wantItemFault(t, sizeOf(n, -n), impl.ErrRange)
	}
}

func TestEveryFormOfItem(t *testing.T) {
	cells := append([]int64{1, 2, 998, 999}, outOfCells...)
	for _, kind := range append([]int64{1, 2}, otherKinds...) {
		for _, n := range []int{0, 1, 2, 7, 8, 9, 256} {
			data := countedBytes(n, 3)
			for _, cols := range cells {
				for _, rows := range cells {
					x := impl.Item{Kind: kind, Bytes: data, Cols: cols, Rows: rows}
					if code := impl.ItemFault(x); code != trueItemFault(x) {
						t.Fatalf("ItemFault of %+v: code %d; want %d", x, code, trueItemFault(x))
					}
				}
			}
		}
	}
}

func TestAtomsOfKnownItems(t *testing.T) {
	wantAtoms(t, "a size", impl.AtomsOf([]impl.Item{sizeOf(80, 24)}), impl.Atom{Kind: 2, A: 80, B: 24})
	wantAtoms(t, "a key", impl.AtomsOf([]impl.Item{keyOf("a")}), impl.Atom{Kind: 1, A: 97})
	wantAtoms(t, "no items", impl.AtomsOf(nil))
	wantAtoms(t, "an empty list", impl.AtomsOf([]impl.Item{}))
	got := impl.AtomsOf([]impl.Item{keyOf("ab"), sizeOf(1, 999), keyOf("\x00\xff"), sizeOf(999, 1), keyOf("b")})
	wantAtoms(t, "both kinds", got, impl.Atom{Kind: 1, A: 97}, impl.Atom{Kind: 1, A: 98}, impl.Atom{Kind: 2, A: 1, B: 999},
		impl.Atom{Kind: 1, A: 0}, impl.Atom{Kind: 1, A: 255}, impl.Atom{Kind: 2, A: 999, B: 1}, impl.Atom{Kind: 1, A: 98})
	got = impl.AtomsOf([]impl.Item{keyOf("12345678")})
	wantAtoms(t, "a key of eight bytes", got, impl.Atom{Kind: 1, A: 49}, impl.Atom{Kind: 1, A: 50}, impl.Atom{Kind: 1, A: 51}, impl.Atom{Kind: 1, A: 52},
		impl.Atom{Kind: 1, A: 53}, impl.Atom{Kind: 1, A: 54}, impl.Atom{Kind: 1, A: 55}, impl.Atom{Kind: 1, A: 56})
}

func TestAtomsOfEveryByteAndCell(t *testing.T) {
	for b := range 256 {
		wantAtoms(t, "a byte", impl.AtomsOf([]impl.Item{{Kind: impl.ItemKey, Bytes: []byte{byte(b)}}}), impl.Atom{Kind: 1, A: int64(b)})
	}
	for n := int64(1); n <= 999; n++ {
		wantAtoms(t, "a size", impl.AtomsOf([]impl.Item{sizeOf(n, 1000-n)}), impl.Atom{Kind: 2, A: n, B: 1000 - n})
	}
}

// trueAtoms goes the other way round: from the last item to the first one.
func trueAtoms(items []impl.Item) []impl.Atom {
	var atoms []impl.Atom
	for _, x := range slices.Backward(items) {
		if x.Kind == 2 {
			atoms = append(atoms, impl.Atom{Kind: 2, A: x.Cols, B: x.Rows})
		}
		for _, b := range slices.Backward(x.Bytes) {
			atoms = append(atoms, impl.Atom{Kind: 1, A: int64(b)})
		}
	}
	slices.Reverse(atoms)
	return atoms
}

func TestAtomsOfManyItems(t *testing.T) {
	for _, n := range []int{1, 2, 3, 16, 17, 64, 99, 100} {
		wantAtoms(t, fmt.Sprint(n, " items"), impl.AtomsOf(someItems(n)), trueAtoms(someItems(n))...)
	}
	longest := slices.Repeat([]impl.Item{keyOf("12345678")}, 100)
	if got := impl.AtomsOf(longest); len(got.Atoms) != 800 || !slices.Equal(got.Atoms, trueAtoms(longest)) {
		t.Errorf("100 keys of eight bytes: code %d, %d atoms", got.Code, len(got.Atoms))
	}
	for _, n := range []int{101, 102, 255, 256, 1000, 65536, 65636} {
		wantAtomsFault(t, fmt.Sprint(n, " items"), impl.AtomsOf(slices.Repeat([]impl.Item{keyOf("a")}, n)), impl.ErrMany)
	}
}

func TestAtomsOfItemsWithAFault(t *testing.T) {
	for code, items := range faultyItems() {
		for _, bad := range items {
			wantItemFault(t, bad, code)
			for _, n := range []int{1, 2, 3, 99, 100} {
				for _, place := range []int{0, n / 2, n - 1} {
					list := someItems(n)
					list[place] = bad
					wantAtomsFault(t, fmt.Sprintf("%+v at %d of %d", bad, place, n), impl.AtomsOf(list), code)
				}
			}
			list := someItems(101)
			for _, place := range []int{0, 50, 99, 100} {
				list[place] = bad
				wantAtomsFault(t, fmt.Sprintf("101 items, %+v at %d", bad, place), impl.AtomsOf(list), impl.ErrMany)
			}
		}
	}
}

// Each item is asked all codes ahead of the next one, so the first item with a fault tells the code.
func TestTwoItemsWithFaults(t *testing.T) {
	for first, some := range faultyItems() {
		for _, others := range faultyItems() {
			for _, a := range some {
				for _, b := range others {
					items := []impl.Item{keyOf("a"), a, sizeOf(1, 1), b}
					wantAtomsFault(t, fmt.Sprintf("%+v ahead of %+v", a, b), impl.AtomsOf(items), first)
					wantBadLog(t, logOf(0, items...), 16, first)
					wantBadLog(t, logOf(0, a, b), 2, first)
				}
			}
		}
	}
}

func TestLogsThatAreSo(t *testing.T) {
	for room := int64(1); room <= 16; room++ {
		for n := range int(room) + 1 {
			for _, base := range []int64{0, 1, 255, 256, 4500, 8984, 9000 - int64(n)} {
				wantGoodLog(t, logOf(base, someItems(n)...), room)
			}
		}
		wantGoodLog(t, logOf(9000), room)
	}
}

func TestRoomOutOfBounds(t *testing.T) {
	for _, room := range []int64{0, -1, -2, -16, 17, 18, 64, 256, 257, 1<<32 + 1, math.MaxInt64, math.MinInt64} {
		wantBadLog(t, logOf(0), room, impl.ErrRange)
		wantBadLog(t, logOf(7, keyOf("a")), room, impl.ErrRange)
		wantBadLog(t, logOf(9000), room, impl.ErrRange)
		wantBadLog(t, logOf(0, someItems(17)...), room, impl.ErrRange)
		wantBadLog(t, logOf(0, impl.Item{}), room, impl.ErrRange)
		wantBadLog(t, logOf(9000, keyOf("a")), room, impl.ErrRange)
	}
}

func TestBaseOutOfBounds(t *testing.T) {
	for _, base := range []int64{-1, -2, -9000, 9001, 9002, 10000, 1 << 32, 1<<32 + 7, math.MaxInt64, math.MaxInt64 - 1, math.MinInt64} {
		wantBadLog(t, logOf(base), 1, impl.ErrRange)
		wantBadLog(t, logOf(base), 16, impl.ErrRange)
		wantBadLog(t, logOf(base, keyOf("a"), keyOf("b")), 2, impl.ErrRange)
		wantBadLog(t, logOf(base, keyOf("a"), keyOf("b")), 1, impl.ErrRange)
		wantBadLog(t, logOf(base, impl.Item{}), 1, impl.ErrRange)
		wantBadLog(t, logOf(base), 0, impl.ErrRange)
	}
}

func TestMoreItemsThanRoom(t *testing.T) {
	for room := int64(1); room <= 16; room++ {
		for _, n := range []int{int(room) + 1, int(room) + 2, 17, 18, 100} {
			wantBadLog(t, logOf(0, someItems(n)...), room, impl.ErrMany)
		}
	}
	wantBadLog(t, logOf(0, make([]impl.Item, 100000)...), 16, impl.ErrMany)
	for code, items := range faultyItems() {
		for _, bad := range items {
			wantBadLog(t, logOf(0, bad), 1, code)
			wantBadLog(t, logOf(0, bad, bad), 1, impl.ErrMany)
			wantBadLog(t, logOf(0, keyOf("a"), bad), 1, impl.ErrMany)
		}
	}
	wantBadLog(t, logOf(9000, keyOf("a"), keyOf("b")), 1, impl.ErrMany)
}

func TestLogsWithAnItemWithAFault(t *testing.T) {
	for code, items := range faultyItems() {
		for _, bad := range items {
			for n := 1; n <= 16; n++ {
				for place := range n {
					list := someItems(n)
					list[place] = bad
					wantBadLog(t, impl.Log{Base: 7, Items: list}, 16, code)
					wantBadLog(t, impl.Log{Base: 7, Items: list}, int64(n), code)
				}
			}
			// All items are asked ahead of the last offset.
			wantBadLog(t, logOf(9000, bad), 1, code)
			wantBadLog(t, logOf(8999, keyOf("a"), keyOf("b"), bad), 16, code)
		}
	}
}

func TestTheLastOffset(t *testing.T) {
	for n := range 17 {
		items := someItems(n)
		for base := 9000 - int64(n); base <= 9000; base++ {
			if base+int64(n) == 9000 {
				wantGoodLog(t, logOf(base, items...), 16)
				continue
			}
			wantBadLog(t, logOf(base, items...), 16, impl.ErrFull)
			wantBadLog(t, logOf(base, items...), int64(n), impl.ErrFull)
		}
	}
}

func TestAddItemToKnownLogs(t *testing.T) {
	a, b, c := keyOf("a"), sizeOf(80, 24), keyOf("12345678")
	wantLog(t, "a key to an empty log", impl.AddItem(logOf(0), 1, a), 0, a)
	wantLog(t, "a size to a key", impl.AddItem(logOf(7, a), 2, b), 7, a, b)
	wantLog(t, "a key to both", impl.AddItem(logOf(7, a, b), 3, c), 7, a, b, c)
	wantLog(t, "the same key again", impl.AddItem(logOf(7, a, a), 16, a), 7, a, a, a)
	wantLogFault(t, "one above room", impl.AddItem(logOf(7, a, b), 2, c), impl.ErrFull)
	wantLog(t, "the last offset but one", impl.AddItem(logOf(8999), 1, c), 8999, c)
	wantLogFault(t, "the last offset", impl.AddItem(logOf(8999, c), 2, a), impl.ErrState)
	wantLogFault(t, "the last offset of an empty log", impl.AddItem(logOf(9000), 2, a), impl.ErrState)
}

func TestAddItemUpToRoom(t *testing.T) {
	for room := int64(1); room <= 16; room++ {
		l := logOf(5)
		all := someItems(int(room))
		for n, x := range all {
			got := impl.AddItem(l, room, x)
			wantLog(t, "AddItem", got, 5, all[:n+1]...)
			l = got.Log
		}
		wantLogFault(t, fmt.Sprint("AddItem where there are ", room), impl.AddItem(l, room, keyOf("x")), impl.ErrFull)
		for code, items := range faultyItems() {
			for _, bad := range items {
				wantLogFault(t, "a faulty item, and no room", impl.AddItem(l, room, bad), code)
			}
		}
	}
}

func TestAddItemUpToTheLastOffset(t *testing.T) {
	for n := range 17 {
		base := 9000 - int64(n)
		l := logOf(base, someItems(n)...)
		for room := int64(max(n, 1)); room <= 16; room++ {
			// Where there are room items, too, the last offset is told first.
			wantLogFault(t, fmt.Sprintf("%d items up to the last offset, room %d", n, room), impl.AddItem(l, room, keyOf("x")), impl.ErrState)
			for code, items := range faultyItems() {
				for _, bad := range items {
					wantLogFault(t, "a faulty item at the last offset", impl.AddItem(l, room, bad), code)
				}
			}
			below := logOf(base-1, l.Items...)
			if int64(n) == room {
				wantLogFault(t, "no room one below the last offset", impl.AddItem(below, room, keyOf("x")), impl.ErrFull)
				continue
			}
			wantLog(t, "one below the last offset", impl.AddItem(below, room, keyOf("x")), base-1, append(someItems(n), keyOf("x"))...)
		}
	}
}

func TestTrimKnownLogs(t *testing.T) {
	a, b, c := keyOf("a"), sizeOf(80, 24), keyOf("12345678")
	l := logOf(7, a, b, c)
	wantLog(t, "to Base", impl.TrimLog(l, 3, 7), 7, a, b, c)
	wantLog(t, "to the second", impl.TrimLog(l, 3, 8), 8, b, c)
	wantLog(t, "to the third", impl.TrimLog(l, 3, 9), 9, c)
	wantLog(t, "to the end", impl.TrimLog(l, 3, 10), 10)
	for _, to := range []int64{11, 12, 17, 6, 5, 0, -1, 9000, 9001, math.MaxInt64, math.MinInt64, math.MinInt64 + 7, math.MinInt64 + 10} {
		wantLogFault(t, fmt.Sprint("to ", to), impl.TrimLog(l, 3, to), impl.ErrRange)
	}
}

func TestTrimEveryLog(t *testing.T) {
	for n := range 17 {
		items := someItems(n)
		last := 9000 - int64(n)
		for _, base := range []int64{0, 1, 254, 255, 4500, last - 1, last} {
			l := logOf(base, items...)
			for to := base - 20; to <= base+36; to++ {
				name := fmt.Sprintf("TrimLog to %d of %d items from %d on", to, n, base)
				got := impl.TrimLog(l, 16, to)
				if to < base || to > base+int64(n) {
					wantLogFault(t, name, got, impl.ErrRange)
					continue
				}
				wantLog(t, name, got, to, items[to-base:]...)
			}
		}
	}
}

func TestTrimALogWithNoItem(t *testing.T) {
	for _, base := range []int64{0, 1, 4500, 8999, 9000} {
		for _, room := range []int64{1, 16} {
			wantLog(t, "to Base", impl.TrimLog(logOf(base), room, base), base)
			for _, to := range []int64{base - 1, base + 1, base + 16, -1, 9001, math.MaxInt64, math.MinInt64} {
				wantLogFault(t, fmt.Sprintf("to %d, from %d", to, base), impl.TrimLog(logOf(base), room, to), impl.ErrRange)
			}
		}
	}
}

func TestEveryEdgeOfLogs(t *testing.T) {
	lists := [][]impl.Item{nil, someItems(1), someItems(2), someItems(15), someItems(16), someItems(17)}
	for _, items := range faultyItems() {
		for _, bad := range items {
			lists = append(lists, []impl.Item{bad}, []impl.Item{keyOf("a"), bad}, append(someItems(15), bad), append(someItems(16), bad))
		}
	}
	for _, base := range []int64{-1, 0, 1, 8983, 8984, 8985, 8998, 8999, 9000, 9001} {
		for _, room := range []int64{-1, 0, 1, 2, 15, 16, 17} {
			for _, items := range lists {
				wantByTheWords(t, impl.Log{Base: base, Items: items}, room)
			}
		}
	}
}

func wantByTheWords(t *testing.T, l impl.Log, room int64) {
	t.Helper()
	if code := impl.LogFault(l, room); code != trueLogFault(l, room) {
		t.Fatalf("LogFault of %+v with room %d: code %d; want %d", l, room, code, trueLogFault(l, room))
	}
	for _, x := range []impl.Item{keyOf("x"), sizeOf(999, 1), {}, keyOf(""), keyOf("123456789"), sizeOf(1, 1000)} {
		if got := impl.AddItem(l, room, x); got.Code != trueAddCode(l, room, x) {
			t.Fatalf("AddItem of %+v to %+v with room %d: code %d; want %d", x, l, room, got.Code, trueAddCode(l, room, x))
		}
	}
	end := l.Base + int64(len(l.Items))
	for _, to := range []int64{l.Base - 1, l.Base, l.Base + 1, end - 1, end, end + 1, 0, 9000} {
		if got := impl.TrimLog(l, room, to); got.Code != trueTrimCode(l, room, to) {
			t.Fatalf("TrimLog to %d of %+v with room %d: code %d; want %d", to, l, room, got.Code, trueTrimCode(l, room, to))
		}
	}
}

// A run types and cuts by chance; what comes of it stands in the diary, which forgets nothing.
func runLog(t *testing.T, seed uint64, start int64) {
	random := rand.New(rand.NewPCG(seed, 5))
	room := 1 + random.Int64N(16)
	d := diary{start: start}
	l := logOf(start)
	items := append(someItems(40), impl.Item{}, keyOf(""), sizeOf(1, 0))
	for range 200 {
		if random.IntN(3) > 0 {
			x := items[random.IntN(len(items))]
			want := trueAddCode(d.log(), room, x)
			got := impl.AddItem(l, room, x)
			if got.Code != want {
				t.Fatalf("seed %d: AddItem of %+v to %+v: code %d; want %d", seed, x, l, got.Code, want)
			}
			if want == impl.OK {
				d.typed = append(d.typed, x)
				l = got.Log
			}
		} else {
			cut := random.IntN(len(l.Items)+5) - 2
			want := trueTrimCode(d.log(), room, l.Base+int64(cut))
			got := impl.TrimLog(l, room, l.Base+int64(cut))
			if got.Code != want {
				t.Fatalf("seed %d: TrimLog by %d of %+v: code %d; want %d", seed, cut, l, got.Code, want)
			}
			if want == impl.OK {
				d.gone += cut
				l = got.Log
			}
		}
		if w := d.log(); !isLog(l, w.Base, w.Items) || impl.LogFault(l, room) != impl.OK {
			t.Fatalf("seed %d: the log is %+v; want %+v", seed, l, w)
		}
	}
}

func TestRunsOfALog(t *testing.T) {
	for seed := range uint64(60) {
		runLog(t, seed, 0)
		runLog(t, seed, 8950)
		runLog(t, seed, 8990)
	}
}

func TestEveryOffset(t *testing.T) {
	l := logOf(0)
	for offset := range int64(9000) {
		x := sizeOf(offset%999+1, offset/999+1)
		added := impl.AddItem(l, 3, x)
		if added.Code != impl.OK || added.Log.Base+int64(len(added.Log.Items))-1 != offset {
			t.Fatalf("AddItem at the offset %d: %+v", offset, added)
		}
		l = added.Log
		if len(l.Items) == 3 {
			l = impl.TrimLog(l, 3, l.Base+1).Log
		}
	}
	wantLogFault(t, "behind all offsets", impl.AddItem(l, 3, keyOf("a")), impl.ErrState)
	wantLog(t, "all are gone", impl.TrimLog(l, 3, 9000), 9000)
	wantLogFault(t, "behind all that are gone", impl.AddItem(logOf(9000), 3, keyOf("a")), impl.ErrState)
}

// itemsThatDiffer has each item once; the last ones have faults.
func itemsThatDiffer() []impl.Item {
	return []impl.Item{
		keyOf("a"), keyOf("b"), keyOf("ab"), keyOf("ba"), keyOf("aa"), keyOf("\x00"), keyOf("12345678"), keyOf("12345670"), keyOf("02345678"), keyOf("1234567"),
		sizeOf(80, 24), sizeOf(24, 80), sizeOf(80, 25), sizeOf(81, 24), sizeOf(1, 1), sizeOf(999, 999),
		{}, {Kind: 3}, {Kind: -1}, {Kind: 256}, {Kind: 1 << 32}, {Kind: math.MinInt64}, {Bytes: []byte("a")}, {Cols: 80, Rows: 24}, {Cols: 1}, {Rows: 1}, keyOf(""), keyOf("123456789"), keyOf("123456780"),
		{Kind: 1, Bytes: []byte("a"), Cols: 1}, {Kind: 1, Bytes: []byte("a"), Rows: 1}, {Kind: 2, Bytes: []byte("a"), Cols: 80, Rows: 24}, {Kind: 2}, {Kind: 3, Bytes: []byte("a")},
		sizeOf(0, 24), sizeOf(80, 0), sizeOf(-80, 24), sizeOf(80, -24), sizeOf(80, 24+256), sizeOf(80, 24+1<<32), sizeOf(80+1<<32, 24), sizeOf(79, 1024), sizeOf(math.MaxInt64, math.MinInt64), sizeOf(math.MinInt64, math.MaxInt64),
	}
}

func cloneItems(items []impl.Item) []impl.Item {
	clones := slices.Clone(items)
	for i := range clones {
		clones[i].Bytes = slices.Clone(clones[i].Bytes)
	}
	return clones
}

func wantSameItems(t *testing.T, a []impl.Item, b []impl.Item, want bool) {
	t.Helper()
	if impl.SameItems(a, cloneItems(b)) != want || impl.SameItems(cloneItems(b), a) != want {
		t.Errorf("SameItems of %+v and %+v is not %v both ways", a, b, want)
	}
}

func TestSameItems(t *testing.T) {
	all := itemsThatDiffer()
	for i, a := range all {
		for j, b := range all {
			wantSameItems(t, []impl.Item{a}, []impl.Item{b}, i == j)
			wantSameItems(t, []impl.Item{a, b}, []impl.Item{b, a}, i == j)
			wantSameItems(t, []impl.Item{a, a, b}, []impl.Item{a, b, b}, i == j)
			wantSameItems(t, []impl.Item{all[0], a}, []impl.Item{all[0], b}, i == j)
			wantSameItems(t, []impl.Item{a, all[0]}, []impl.Item{b, all[0]}, i == j)
		}
		wantSameItems(t, []impl.Item{a}, nil, false)
		wantSameItems(t, []impl.Item{a, a}, []impl.Item{a}, false)
		wantSameItems(t, all, append(slices.Clone(all[:i]), all[i+1:]...), false)
	}
	wantSameItems(t, nil, nil, true)
	wantSameItems(t, all, all, true)
	wantSameItems(t, someItems(300), someItems(300), true)
	wantSameItems(t, someItems(300), someItems(299), false)
	if !impl.SameItems(all, all) {
		t.Error("a list and itself are not the same items")
	}
}

func TestSameAtoms(t *testing.T) {
	edges := []int64{0, 1, 2, -1, 97, 256, 257, 1 << 32, 1<<32 + 1, math.MaxInt64, math.MinInt64}
	var all []impl.Atom
	for _, kind := range []int64{0, 1, 2, 3, -1, 257, 1<<32 + 1} {
		for _, a := range edges {
			for _, b := range edges {
				all = append(all, impl.Atom{Kind: kind, A: a, B: b})
			}
		}
	}
	for i, a := range all {
		for j, b := range all {
			if impl.SameAtoms([]impl.Atom{a}, []impl.Atom{b}) != (i == j) {
				t.Fatalf("SameAtoms of %+v and %+v is not %v", a, b, i == j)
			}
		}
		next := all[(i+1)%len(all)]
		for _, other := range [][]impl.Atom{nil, {a}, {next}, {next, a}, {a, a}, {next, next}, {a, next, a}, {a, next, next}} {
			if impl.SameAtoms([]impl.Atom{a, next}, other) || impl.SameAtoms(other, []impl.Atom{a, next}) {
				t.Errorf("SameAtoms of %+v, %+v and %+v", a, next, other)
			}
		}
	}
	if !impl.SameAtoms(all, slices.Clone(all)) || !impl.SameAtoms(all, all) || impl.SameAtoms(all, all[1:]) || impl.SameAtoms(all, all[:len(all)-1]) {
		t.Error("SameAtoms of a long list")
	}
}

func TestEmptyListAndNilOfItemsAlike(t *testing.T) {
	if !impl.SameItems(nil, []impl.Item{}) || !impl.SameItems([]impl.Item{}, nil) || !impl.SameAtoms(nil, []impl.Atom{}) || !impl.SameAtoms([]impl.Atom{}, nil) {
		t.Error("nil and an empty list are not the same")
	}
	for _, x := range []impl.Item{{}, {Kind: impl.ItemKey}, sizeOf(80, 24), {Kind: 3}, {Kind: impl.ItemKey, Cols: 1}, sizeOf(0, 24)} {
		empty := x
		empty.Bytes = []byte{}
		if !impl.SameItems([]impl.Item{x}, []impl.Item{empty}) || !impl.SameItems([]impl.Item{empty}, []impl.Item{x}) {
			t.Errorf("%+v: nil and no bytes are not the same", x)
		}
		wantItemFault(t, x, trueItemFault(x))
		wantItemFault(t, empty, trueItemFault(x))
	}
	for _, base := range []int64{0, 9000} {
		none, empty := impl.Log{Base: base}, impl.Log{Base: base, Items: []impl.Item{}}
		wantByTheWords(t, none, 1)
		wantByTheWords(t, empty, 1)
		wantGoodLog(t, empty, 1)
	}
	wantLog(t, "a key to an empty list", impl.AddItem(impl.Log{Items: []impl.Item{}}, 1, keyOf("a")), 0, keyOf("a"))
	wantAtoms(t, "a size with an empty list", impl.AtomsOf([]impl.Item{{Kind: 2, Bytes: []byte{}, Cols: 80, Rows: 24}}), impl.Atom{Kind: 2, A: 80, B: 24})
}

func TestItemArgumentsStay(t *testing.T) {
	faulty := faultyItems()
	lists := [][]impl.Item{nil, someItems(1), someItems(5), someItems(15), someItems(16), someItems(17), someItems(100), itemsThatDiffer(), faulty[impl.ErrForm], faulty[impl.ErrMany], faulty[impl.ErrRange]}
	for n, list := range lists {
		items := newItemsGuard(list)
		for _, x := range []impl.Item{keyOf("12345678"), sizeOf(80, 24), {}, keyOf("123456789"), sizeOf(1000, 1)} {
			added := newItemsGuard([]impl.Item{x})
			for _, base := range []int64{0, 7, 8984, 8990, 9000, -1, 9001} {
				l := impl.Log{Base: base, Items: items.list()}
				impl.ItemFault(added.list()[0])
				impl.LogFault(l, 16)
				impl.SameItems(items.list(), added.list())
				overwriteAtoms(impl.AtomsOf(items.list()).Atoms)
				overwriteItems(impl.AddItem(l, 16, added.list()[0]).Log.Items)
				overwriteItems(impl.TrimLog(l, 16, base).Log.Items)
				overwriteItems(impl.TrimLog(l, 16, base+1).Log.Items)
				overwriteItems(impl.TrimLog(l, 16, base+int64(len(list))).Log.Items)
			}
			added.mustBeSame(t, fmt.Sprintf("%+v to list %d", x, n))
		}
		items.mustBeSame(t, fmt.Sprint("list ", n))
	}
}

func TestSameAtomsLeavesItsArguments(t *testing.T) {
	a := impl.AtomsOf(someItems(10)).Atoms
	b := slices.Clone(a)
	impl.SameAtoms(a, b)
	impl.SameAtoms(a, b[1:])
	if !slices.Equal(a, b) || !slices.Equal(a, trueAtoms(someItems(10))) {
		t.Error("SameAtoms has changed its arguments")
	}
}

func TestItemAnswersAreNew(t *testing.T) {
	items := someItems(5)
	l := impl.Log{Base: 7, Items: items}
	x := keyOf("x")
	added, trimmed, atoms := impl.AddItem(l, 16, x), impl.TrimLog(l, 16, 9), impl.AtomsOf(items)
	overwriteItems(impl.AddItem(l, 16, x).Log.Items)
	overwriteItems(impl.TrimLog(l, 16, 9).Log.Items)
	overwriteAtoms(impl.AtomsOf(items).Atoms)
	overwriteItems(items)
	overwrite(x.Bytes)
	wantLog(t, "AddItem behind a change of all else", added, 7, append(someItems(5), keyOf("x"))...)
	wantLog(t, "TrimLog behind a change of all else", trimmed, 9, someItems(5)[2:]...)
	wantAtoms(t, "AtomsOf behind a change of all else", atoms, trueAtoms(someItems(5))...)
}

// mustBeApart changes the bytes of each item in turn, also behind their end: those of the others have to stay.
func mustBeApart(t *testing.T, name string, items []impl.Item, text string) {
	t.Helper()
	for i := range items {
		overwrite(items[i].Bytes)
		for j := i + 1; j < len(items); j++ {
			if string(items[j].Bytes) != text {
				t.Errorf("%s: the items %d and %d share their bytes", name, i, j)
			}
		}
	}
}

func TestItemsOfOneAnswerShareNothing(t *testing.T) {
	for n := range 9 {
		// All items that come in share their bytes, so a copy that is not made for each of them is seen.
		text := strings.Repeat("k", min(n+1, 8))
		x := keyOf(text)
		l := impl.Log{Base: 7, Items: slices.Repeat([]impl.Item{x}, n)}
		mustBeApart(t, "AddItem", impl.AddItem(l, 16, x).Log.Items, text)
		mustBeApart(t, "TrimLog", impl.TrimLog(l, 16, 7).Log.Items, text)
		mustBeApart(t, "TrimLog by one", impl.TrimLog(l, 16, 7+min(int64(n), 1)).Log.Items, text)
		if string(x.Bytes) != text {
			t.Errorf("an answer shares %q with its argument", text)
		}
	}
}

func TestItemAnswersHangOnArgumentsAlone(t *testing.T) {
	l := logOf(7, someItems(3)...)
	for range 20 {
		wantLog(t, "AddItem", impl.AddItem(l, 4, keyOf("a")), 7, append(someItems(3), keyOf("a"))...)
		wantLogFault(t, "AddItem of a fault", impl.AddItem(l, 4, keyOf("")), impl.ErrMany)
		wantLogFault(t, "AddItem with no room", impl.AddItem(l, 3, keyOf("a")), impl.ErrFull)
		wantLog(t, "TrimLog", impl.TrimLog(l, 4, 9), 9, someItems(3)[2:]...)
		wantLogFault(t, "TrimLog too far", impl.TrimLog(l, 4, 11), impl.ErrRange)
		wantAtoms(t, "AtomsOf", impl.AtomsOf(l.Items), trueAtoms(l.Items)...)
		wantAtomsFault(t, "AtomsOf a fault", impl.AtomsOf([]impl.Item{sizeOf(0, 1)}), impl.ErrRange)
		wantGoodLog(t, l, 3)
		wantBadLog(t, l, 2, impl.ErrMany)
		wantSameItems(t, l.Items, someItems(3), true)
	}
}

func TestItemAnswersAtOneTime(t *testing.T) {
	items := someItems(15)
	var group sync.WaitGroup
	for range 8 {
		group.Go(func() {
			for base := int64(0); base < 9000; base += 100 {
				l := impl.Log{Base: base, Items: items}
				wantLog(t, "AddItem", impl.AddItem(l, 16, items[0]), base, append(someItems(15), items[0])...)
				wantLog(t, "TrimLog", impl.TrimLog(l, 16, base+9), base+9, items[9:]...)
				wantAtoms(t, "AtomsOf", impl.AtomsOf(items), trueAtoms(items)...)
				wantSameItems(t, items, someItems(15), true)
			}
		})
	}
	group.Wait()
}
