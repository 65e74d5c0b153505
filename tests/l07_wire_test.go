package tests

import (
	"bytes"
	"encoding/binary"
	"fmt"
	"math"
	"math/rand/v2"
	"slices"
	"strings"
	"sync"
	"testing"

	"loop.example/g00799/impl"
)

// outOfOffsets are neither a Base nor an Ack; some of them are so only by their higher bits.
var outOfOffsets = []int64{-1, -2, -9000, -9001, 9001, 9002, 10000, 65536, 1 << 31, 1 << 32, 1<<32 + 5, math.MaxInt64, math.MaxInt64 - 1, math.MinInt64, math.MinInt64 + 1}

var someOffsets = []int64{0, 1, 2, 255, 256, 257, 4500, 8995, 8996, 8997, 8998, 8999, 9000}

// outOfEchoes are no stamps, and not NoStamp either.
var outOfEchoes = outOfStamps[1:]

var someEchoes = append(slices.Clone(someStamps), impl.NoStamp)

func bodyOf(base int64, stamp int64, echo int64, items ...impl.Item) impl.Body {
	return impl.Body{Base: base, Stamp: stamp, Echo: echo, Items: items}
}

func replyOf(ack int64, stamp int64, echo int64) impl.Reply {
	return impl.Reply{Ack: ack, Stamp: stamp, Echo: echo}
}

// someBodies have all counts of items, both kinds, all lengths of keys, and each number at its edges.
func someBodies() []impl.Body {
	bodies := []impl.Body{
		{},
		bodyOf(9000, 65535, 65536),
		bodyOf(8999, 65535, 65535, keyOf("12345678")),
		bodyOf(8996, 0, 65536, keyOf("12345678"), keyOf("12345678"), keyOf("12345678"), keyOf("12345678")),
		bodyOf(8996, 257, 258, sizeOf(999, 999), sizeOf(1, 1), sizeOf(256, 255), sizeOf(2, 513)),
		bodyOf(1, 2, 3, keyOf("\x00"), keyOf("\xff"), keyOf("\x01\x01\x01"), keyOf("\x02\x00\x01\x00\x01")),
		bodyOf(5, 258, 65536, keyOf("hi"), sizeOf(80, 24)),
		bodyOf(5, 258, 65536, sizeOf(80, 24), keyOf("hi")),
	}
	for n := range 5 {
		bodies = append(bodies, bodyOf(int64(n)*256, 65535-int64(n), int64(n), someItems(n)...))
		bodies = append(bodies, bodyOf(9000-int64(n), int64(n), 65536-int64(n), someItems(9)[9-n:]...))
	}
	return bodies
}

// trueBodyFault goes by the words of the document.
func trueBodyFault(b impl.Body) int64 {
	many := int64(len(b.Items))
	switch {
	case !isWithin(b.Base, 0, 9000), !isWithin(b.Stamp, 0, 65535), !isWithin(b.Echo, 0, 65535) && b.Echo != 65536:
		return impl.ErrRange
	case many > 4:
		return impl.ErrMany
	}
	for _, x := range b.Items {
		if code := trueItemFault(x); code != impl.OK {
			return code
		}
	}
	if b.Base > 9000-many {
		return impl.ErrFull
	}
	return impl.OK
}

func trueReplyFault(r impl.Reply) int64 {
	return trueBodyFault(impl.Body{Base: r.Ack, Stamp: r.Stamp, Echo: r.Echo})
}

func trueStart(offset int64, stamp int64, echo int64) []byte {
	data := binary.BigEndian.AppendUint32(nil, uint32(offset))
	data = binary.BigEndian.AppendUint16(data, uint16(stamp))
	return append(data, byte(echo/65536), byte(echo/256%256), byte(echo%256))
}

func trueItemBytes(x impl.Item) []byte {
	if x.Kind == 1 {
		return append([]byte{1, byte(len(x.Bytes))}, x.Bytes...)
	}
	return binary.BigEndian.AppendUint16(binary.BigEndian.AppendUint16([]byte{2}, uint16(x.Cols)), uint16(x.Rows))
}

func trueBodyBytes(b impl.Body) []byte {
	data := append(trueStart(b.Base, b.Stamp, b.Echo), byte(len(b.Items)))
	for _, x := range b.Items {
		data = append(data, trueItemBytes(x)...)
	}
	return data
}

func trueReplyBytes(r impl.Reply) []byte {
	return trueStart(r.Ack, r.Stamp, r.Echo)
}

// trueBody looks for the body whose bytes these are; with false there is none.
func trueBody(plain []byte) (impl.Body, bool) {
	if len(plain) < 10 {
		return impl.Body{}, false
	}
	r := numbersAtStart(plain)
	b := impl.Body{Base: r.Ack, Stamp: r.Stamp, Echo: r.Echo}
	rest := plain[10:]
	for range plain[9] {
		size := 0
		switch {
		case len(rest) >= 5 && rest[0] == 2:
			size = 5
			b.Items = append(b.Items, sizeOf(int64(rest[1])*256+int64(rest[2]), int64(rest[3])*256+int64(rest[4])))
		case len(rest) >= 2 && rest[0] == 1 && len(rest) >= 2+int(rest[1]):
			size = 2 + int(rest[1])
			b.Items = append(b.Items, keyOf(string(rest[2:size])))
		default:
			return impl.Body{}, false
		}
		rest = rest[size:]
	}
	if len(rest) > 0 || trueBodyFault(b) != impl.OK {
		return impl.Body{}, false
	}
	return b, true
}

// numbersAtStart is for at least 9 bytes.
func numbersAtStart(plain []byte) impl.Reply {
	return replyOf(int64(binary.BigEndian.Uint32(plain)), int64(binary.BigEndian.Uint16(plain[4:])), int64(binary.BigEndian.Uint32(plain[5:])%(1<<24)))
}

func trueReply(plain []byte) (impl.Reply, bool) {
	if len(plain) != 9 || trueReplyFault(numbersAtStart(plain)) != impl.OK {
		return impl.Reply{}, false
	}
	return numbersAtStart(plain), true
}

func isBody(a impl.Body, b impl.Body) bool {
	return a.Base == b.Base && a.Stamp == b.Stamp && a.Echo == b.Echo && slices.EqualFunc(a.Items, b.Items, isItem)
}

func wantBody(t *testing.T, name string, got impl.BodyResult, want impl.Body) {
	t.Helper()
	if got.Code != impl.OK || !isBody(got.Body, want) {
		t.Errorf("%s: %+v; want code 0, %+v", name, got, want)
	}
}

func wantNoBody(t *testing.T, name string, got impl.BodyResult) {
	t.Helper()
	if got.Code != impl.ErrText || !isBody(got.Body, impl.Body{}) {
		t.Errorf("%s: %+v; want code %d and zeros", name, got, impl.ErrText)
	}
}

func wantReply(t *testing.T, name string, got impl.ReplyResult, want impl.Reply) {
	t.Helper()
	if got != (impl.ReplyResult{Reply: want}) {
		t.Errorf("%s: %+v; want code 0, %+v", name, got, want)
	}
}

func wantNoReply(t *testing.T, name string, got impl.ReplyResult) {
	t.Helper()
	if got != (impl.ReplyResult{Code: impl.ErrText}) {
		t.Errorf("%s: %+v; want code %d and zeros", name, got, impl.ErrText)
	}
}

// wantBadBody asks that a body has no bytes, and that the bytes which it would have say none.
func wantBadBody(t *testing.T, b impl.Body, code int64) {
	t.Helper()
	if got := impl.BodyFault(b); got != code {
		t.Errorf("BodyFault of %+v: code %d; want %d", b, got, code)
	}
	wantBytesFault(t, fmt.Sprintf("EncodeBody of %+v", b), impl.EncodeBody(b), code)
	wantReadRight(t, trueBodyBytes(b))
}

// wantGoodBody asks that a body has just the bytes that the document tells, and is read back from them.
func wantGoodBody(t *testing.T, b impl.Body) {
	t.Helper()
	if code := impl.BodyFault(b); code != impl.OK {
		t.Errorf("BodyFault of %+v: code %d", b, code)
	}
	got := impl.EncodeBody(b)
	wantBytes(t, fmt.Sprintf("EncodeBody of %+v", b), got, trueBodyBytes(b))
	wantBody(t, fmt.Sprintf("DecodeBody of %v", got.Bytes), impl.DecodeBody(got.Bytes), b)
}

func wantBadReply(t *testing.T, r impl.Reply) {
	t.Helper()
	if code := impl.ReplyFault(r); code != impl.ErrRange {
		t.Errorf("ReplyFault of %+v: code %d; want %d", r, code, impl.ErrRange)
	}
	wantBytesFault(t, fmt.Sprintf("EncodeReply of %+v", r), impl.EncodeReply(r), impl.ErrRange)
	wantReadRight(t, trueReplyBytes(r))
}

func wantGoodReply(t *testing.T, r impl.Reply) {
	t.Helper()
	if code := impl.ReplyFault(r); code != impl.OK {
		t.Errorf("ReplyFault of %+v: code %d", r, code)
	}
	got := impl.EncodeReply(r)
	wantBytes(t, fmt.Sprintf("EncodeReply of %+v", r), got, trueReplyBytes(r))
	wantReply(t, fmt.Sprintf("DecodeReply of %v", got.Bytes), impl.DecodeReply(got.Bytes), r)
}

// wantReadRight asks both readers for what these bytes say, by the words of the document; what is read has to have the same bytes again.
func wantReadRight(t *testing.T, plain []byte) {
	t.Helper()
	if b, ok := trueBody(plain); ok {
		wantBody(t, fmt.Sprintf("DecodeBody of %v", plain), impl.DecodeBody(plain), b)
		wantBytes(t, fmt.Sprintf("EncodeBody of what %v say", plain), impl.EncodeBody(impl.DecodeBody(plain).Body), plain)
	} else {
		wantNoBody(t, fmt.Sprintf("DecodeBody of %v", plain), impl.DecodeBody(plain))
	}
	if r, ok := trueReply(plain); ok {
		wantReply(t, fmt.Sprintf("DecodeReply of %v", plain), impl.DecodeReply(plain), r)
		wantBytes(t, fmt.Sprintf("EncodeReply of what %v say", plain), impl.EncodeReply(impl.DecodeReply(plain).Reply), plain)
	} else {
		wantNoReply(t, fmt.Sprintf("DecodeReply of %v", plain), impl.DecodeReply(plain))
	}
}

// wantUnreadable asks that these bytes say nothing, whatever the reckoning of the tests tells.
func wantUnreadable(t *testing.T, name string, plain []byte) {
	t.Helper()
	wantNoBody(t, "DecodeBody: "+name, impl.DecodeBody(plain))
	wantNoReply(t, "DecodeReply: "+name, impl.DecodeReply(plain))
}

func TestWireNumbers(t *testing.T) {
	if got := int64(impl.MaxSend); got != 4 {
		t.Errorf("MaxSend is %d; want 4", got)
	}
}

func TestKnownBodies(t *testing.T) {
	cases := []struct {
		name string
		body impl.Body
		want []byte
	}{
		{"nothing but noughts", impl.Body{}, []byte{0, 0, 0, 0, 0, 0, 0, 0, 0, 0}},
		{"no items", bodyOf(258, 772, 1286), []byte{0, 0, 1, 2, 3, 4, 0, 5, 6, 0}},
		{"all at their last", bodyOf(9000, 65535, 65535), []byte{0, 0, 35, 40, 255, 255, 0, 255, 255, 0}},
		{"an echo that is none", bodyOf(9000, 0, impl.NoStamp), []byte{0, 0, 35, 40, 0, 0, 1, 0, 0, 0}},
		{"a key", bodyOf(0, 1, 2, keyOf("a")), []byte{0, 0, 0, 0, 0, 1, 0, 0, 2, 1, 1, 1, 97}},
		{"a key of eight", bodyOf(8999, 1, 2, keyOf("12345678")), []byte{0, 0, 35, 39, 0, 1, 0, 0, 2, 1, 1, 8, 49, 50, 51, 52, 53, 54, 55, 56}},
		{"a size", bodyOf(0, 1, 2, sizeOf(80, 24)), []byte{0, 0, 0, 0, 0, 1, 0, 0, 2, 1, 2, 0, 80, 0, 24}},
		{"the least size", bodyOf(0, 1, 2, sizeOf(1, 1)), []byte{0, 0, 0, 0, 0, 1, 0, 0, 2, 1, 2, 0, 1, 0, 1}},
		{"the greatest size", bodyOf(0, 1, 2, sizeOf(999, 999)), []byte{0, 0, 0, 0, 0, 1, 0, 0, 2, 1, 2, 3, 231, 3, 231}},
		{"both kinds", bodyOf(5, 258, impl.NoStamp, keyOf("hi"), sizeOf(80, 24)), []byte{0, 0, 0, 5, 1, 2, 1, 0, 0, 2, 1, 2, 104, 105, 2, 0, 80, 0, 24}},
		{"four items", bodyOf(8996, 65535, 256, sizeOf(256, 2), keyOf("\x00\xff"), sizeOf(3, 512), keyOf("\x02")),
			[]byte{0, 0, 35, 36, 255, 255, 0, 1, 0, 4, 2, 1, 0, 0, 2, 1, 2, 0, 255, 2, 0, 3, 2, 0, 1, 1, 2}},
	}
	for _, c := range cases {
		wantBytes(t, "EncodeBody: "+c.name, impl.EncodeBody(c.body), c.want)
		wantBody(t, "DecodeBody: "+c.name, impl.DecodeBody(c.want), c.body)
		wantGoodBody(t, c.body)
	}
}

func TestKnownReplies(t *testing.T) {
	cases := []struct {
		reply impl.Reply
		want  []byte
	}{
		{impl.Reply{}, []byte{0, 0, 0, 0, 0, 0, 0, 0, 0}},
		{replyOf(1, 2, impl.NoStamp), []byte{0, 0, 0, 1, 0, 2, 1, 0, 0}},
		{replyOf(258, 772, 1286), []byte{0, 0, 1, 2, 3, 4, 0, 5, 6}},
		{replyOf(9000, 65535, 65535), []byte{0, 0, 35, 40, 255, 255, 0, 255, 255}},
		{replyOf(0, 65535, 0), []byte{0, 0, 0, 0, 255, 255, 0, 0, 0}},
	}
	for _, c := range cases {
		wantBytes(t, "EncodeReply", impl.EncodeReply(c.reply), c.want)
		wantReply(t, "DecodeReply", impl.DecodeReply(c.want), c.reply)
		wantGoodReply(t, c.reply)
	}
}

func TestEveryOffsetThatIsSaid(t *testing.T) {
	for offset := range int64(9001) {
		wantGoodBody(t, bodyOf(offset, 7, 8))
		wantGoodReply(t, replyOf(offset, 7, 8))
	}
}

func TestEveryStampAndEchoThatIsSaid(t *testing.T) {
	for n := range int64(65536) {
		wantGoodBody(t, bodyOf(7, n, 65536-n))
		wantGoodReply(t, replyOf(7, n, 65536-n))
	}
	wantGoodBody(t, bodyOf(7, 0, 0))
	wantGoodReply(t, replyOf(7, 0, 0))
}

func TestEveryByteAndCellThatIsSaid(t *testing.T) {
	for b := range 256 {
		for n := 1; n <= 8; n++ {
			wantGoodBody(t, bodyOf(7, 8, 9, keyOf(strings.Repeat(string([]byte{byte(b)}), n)), keyOf("x")))
		}
	}
	for n := int64(1); n <= 999; n++ {
		wantGoodBody(t, bodyOf(7, 8, 9, sizeOf(n, 1), sizeOf(1, n), sizeOf(n, 999), sizeOf(n, 1000-n)))
	}
}

func TestOffsetsThatAreNotSaid(t *testing.T) {
	for _, n := range outOfOffsets {
		for _, b := range someBodies() {
			wantBadBody(t, bodyOf(n, b.Stamp, b.Echo, b.Items...), impl.ErrRange)
			wantBadReply(t, replyOf(n, b.Stamp, b.Echo))
		}
	}
}

func TestStampsThatAreNotSaid(t *testing.T) {
	for _, n := range outOfStamps {
		for _, b := range someBodies() {
			wantBadBody(t, bodyOf(b.Base, n, b.Echo, b.Items...), impl.ErrRange)
			wantBadReply(t, replyOf(b.Base, n, b.Echo))
		}
	}
}

func TestEchoesThatAreNotSaid(t *testing.T) {
	for _, n := range outOfEchoes {
		for _, b := range someBodies() {
			wantBadBody(t, bodyOf(b.Base, b.Stamp, n, b.Items...), impl.ErrRange)
			wantBadReply(t, replyOf(b.Base, b.Stamp, n))
		}
	}
	for _, b := range someBodies() {
		wantGoodBody(t, bodyOf(b.Base, b.Stamp, impl.NoStamp, b.Items...))
		wantGoodReply(t, replyOf(b.Base, b.Stamp, impl.NoStamp))
	}
}

// NoStamp is an echo only: as a stamp it would have the bytes of another one.
func TestNoStampIsNoStampOfItsOwn(t *testing.T) {
	wantBadBody(t, bodyOf(1, impl.NoStamp, impl.NoStamp), impl.ErrRange)
	wantBadBody(t, bodyOf(1, impl.NoStamp, 3, keyOf("a")), impl.ErrRange)
	wantBadReply(t, replyOf(1, impl.NoStamp, impl.NoStamp))
	wantBadReply(t, replyOf(1, impl.NoStamp, 3))
}

func TestHowManyItemsABodyHas(t *testing.T) {
	for n := range 5 {
		wantGoodBody(t, bodyOf(7, 8, 9, someItems(n)...))
	}
	for _, n := range []int{5, 6, 8, 16, 17, 100, 101, 255, 256, 257, 260} {
		wantBadBody(t, bodyOf(7, 8, 9, someItems(n)...), impl.ErrMany)
		wantBadBody(t, bodyOf(7, 8, 9, make([]impl.Item, n)...), impl.ErrMany)
	}
	for _, n := range []int{65536, 65540, 100000} {
		b := bodyOf(7, 8, 9, make([]impl.Item, n)...)
		if code := impl.BodyFault(b); code != impl.ErrMany {
			t.Errorf("BodyFault of %d items: code %d; want %d", n, code, impl.ErrMany)
		}
		wantBytesFault(t, fmt.Sprint("EncodeBody of ", n, " items"), impl.EncodeBody(b), impl.ErrMany)
	}
}

func TestBodiesUpToTheLastOffset(t *testing.T) {
	for n := range int64(5) {
		for base := 9000 - n; base <= 9000; base++ {
			b := bodyOf(base, 8, 9, someItems(int(n))...)
			if base+n == 9000 {
				wantGoodBody(t, b)
				continue
			}
			wantBadBody(t, b, impl.ErrFull)
		}
	}
}

func TestKeysOfABody(t *testing.T) {
	for n := 1; n <= 8; n++ {
		wantGoodBody(t, bodyOf(7, 8, 9, impl.Item{Kind: impl.ItemKey, Bytes: countedBytes(n, 5)}))
	}
	wantBadBody(t, bodyOf(7, 8, 9, impl.Item{Kind: impl.ItemKey}), impl.ErrMany)
	for _, n := range []int{0, 9, 10, 16, 255, 256, 257, 264, 300} {
		wantBadBody(t, bodyOf(7, 8, 9, impl.Item{Kind: impl.ItemKey, Bytes: countedBytes(n, 5)}), impl.ErrMany)
	}
	if code := impl.BodyFault(bodyOf(7, 8, 9, impl.Item{Kind: impl.ItemKey, Bytes: make([]byte, 1<<20)})); code != impl.ErrMany {
		t.Errorf("BodyFault of a key of a million bytes: code %d", code)
	}
}

func TestCellsOfABody(t *testing.T) {
	for _, n := range []int64{1, 2, 255, 256, 998, 999} {
		wantGoodBody(t, bodyOf(7, 8, 9, sizeOf(n, 24), sizeOf(80, n)))
	}
	for _, n := range outOfCells {
		wantBadBody(t, bodyOf(7, 8, 9, sizeOf(n, 24)), impl.ErrRange)
		wantBadBody(t, bodyOf(7, 8, 9, sizeOf(80, n)), impl.ErrRange)
		wantBadBody(t, bodyOf(7, 8, 9, sizeOf(n, n)), impl.ErrRange)
	}
}

func TestItemsOfABodyThatHaveNotTheirForm(t *testing.T) {
	for _, kind := range otherKinds {
		wantBadBody(t, bodyOf(7, 8, 9, impl.Item{Kind: kind}), impl.ErrForm)
		wantBadBody(t, bodyOf(7, 8, 9, impl.Item{Kind: kind, Bytes: []byte("a")}), impl.ErrForm)
		wantBadBody(t, bodyOf(7, 8, 9, impl.Item{Kind: kind, Cols: 80, Rows: 24}), impl.ErrForm)
	}
	for _, n := range []int64{1, -1, 80, 1 << 32, math.MaxInt64, math.MinInt64} {
		wantBadBody(t, bodyOf(7, 8, 9, impl.Item{Kind: impl.ItemKey, Bytes: []byte("a"), Cols: n}), impl.ErrForm)
		wantBadBody(t, bodyOf(7, 8, 9, impl.Item{Kind: impl.ItemKey, Bytes: []byte("a"), Rows: n}), impl.ErrForm)
	}
	wantBadBody(t, bodyOf(7, 8, 9, impl.Item{Kind: impl.ItemSize, Bytes: []byte("a"), Cols: 80, Rows: 24}), impl.ErrForm)
}

func TestBodiesWithAnItemWithAFault(t *testing.T) {
	for code, items := range faultyItems() {
		for _, bad := range items {
			for n := 1; n <= 4; n++ {
				for place := range n {
					list := someItems(n)
					list[place] = bad
					wantBadBody(t, bodyOf(7, 8, 9, list...), code)
				}
			}
		}
	}
}

// The first item with a fault tells the code, whatever the ones behind it have.
func TestBodiesWithTwoItemsWithFaults(t *testing.T) {
	for first, some := range faultyItems() {
		for _, others := range faultyItems() {
			for _, a := range some {
				for _, b := range others {
					wantBadBody(t, bodyOf(7, 8, 9, a, b), first)
					wantBadBody(t, bodyOf(7, 8, 9, a, keyOf("a"), sizeOf(1, 1), b), first)
					wantBadBody(t, bodyOf(9000, 8, 9, a, b), first)
				}
			}
		}
	}
}

// Bounds are asked ahead of how many there are, this ahead of each item, and the last offset behind all else.
func TestBodiesWithTwoFaults(t *testing.T) {
	for code, items := range faultyItems() {
		for _, bad := range items {
			for _, n := range []int64{-1, 65537, math.MaxInt64, math.MinInt64} {
				wantBadBody(t, bodyOf(n, 8, 9, bad), impl.ErrRange)
				wantBadBody(t, bodyOf(7, n, 9, bad), impl.ErrRange)
				wantBadBody(t, bodyOf(7, 8, n, bad), impl.ErrRange)
			}
			for place := range 5 {
				list := someItems(5)
				list[place] = bad
				wantBadBody(t, bodyOf(7, 8, 9, list...), impl.ErrMany)
				wantBadBody(t, bodyOf(9000, 8, 9, list...), impl.ErrMany)
				wantBadBody(t, bodyOf(9001, 8, 9, list...), impl.ErrRange)
			}
			wantBadBody(t, bodyOf(9000, 8, 9, bad), code)
			wantBadBody(t, bodyOf(8999, 8, 9, keyOf("a"), keyOf("b"), bad), code)
		}
	}
	five := someItems(5)
	wantBadBody(t, bodyOf(9001, 8, 9, five...), impl.ErrRange)
	wantBadBody(t, bodyOf(-1, 8, 9, five...), impl.ErrRange)
	wantBadBody(t, bodyOf(7, 65536, 9, five...), impl.ErrRange)
	wantBadBody(t, bodyOf(7, 8, 65537, five...), impl.ErrRange)
	wantBadBody(t, bodyOf(8996, 8, 9, five...), impl.ErrMany)
	wantBadBody(t, bodyOf(8999, 65536, 9, keyOf("a"), keyOf("b")), impl.ErrRange)
	wantBadBody(t, bodyOf(8999, 8, 65537, keyOf("a"), keyOf("b")), impl.ErrRange)
	wantBadBody(t, bodyOf(9001, 65536, 65537), impl.ErrRange)
	wantBadReply(t, replyOf(9001, 65536, 65537))
}

func TestEveryFormOfBodyAndReply(t *testing.T) {
	lists := [][]impl.Item{nil, someItems(1), someItems(4), someItems(5)}
	for _, items := range faultyItems() {
		lists = append(lists, items[:1], append(someItems(3), items[1]), append(someItems(4), items[1]))
	}
	for _, offset := range slices.Concat(someOffsets, outOfOffsets) {
		for _, stamp := range slices.Concat(someStamps, outOfStamps) {
			for _, echo := range slices.Concat(someEchoes, outOfEchoes) {
				for _, items := range lists {
					b := bodyOf(offset, stamp, echo, items...)
					if code := impl.BodyFault(b); code != trueBodyFault(b) {
						t.Fatalf("BodyFault of %+v: code %d; want %d", b, code, trueBodyFault(b))
					}
					if got := impl.EncodeBody(b); got.Code != trueBodyFault(b) {
						t.Fatalf("EncodeBody of %+v: code %d; want %d", b, got.Code, trueBodyFault(b))
					}
				}
				r := replyOf(offset, stamp, echo)
				if code := impl.ReplyFault(r); code != trueReplyFault(r) {
					t.Fatalf("ReplyFault of %+v: code %d; want %d", r, code, trueReplyFault(r))
				}
				if got := impl.EncodeReply(r); got.Code != trueReplyFault(r) {
					t.Fatalf("EncodeReply of %+v: code %d; want %d", r, got.Code, trueReplyFault(r))
				}
			}
		}
	}
}

func TestTextsThatAreCutOff(t *testing.T) {
	for _, b := range someBodies() {
		plain := trueBodyBytes(b)
		for n := range plain {
			wantNoBody(t, fmt.Sprintf("the first %d bytes of %v", n, plain), impl.DecodeBody(plain[:n]))
			wantNoBody(t, fmt.Sprintf("the first %d bytes of %v, with no room behind", n, plain), impl.DecodeBody(plain[:n:n]))
			wantReadRight(t, plain[n:])
		}
		wantGoodBody(t, b)
	}
	for _, r := range []impl.Reply{{}, replyOf(1, 2, 65536), replyOf(9000, 65535, 65535)} {
		plain := trueReplyBytes(r)
		for n := range plain {
			wantUnreadable(t, fmt.Sprintf("the first %d bytes of %v", n, plain), plain[:n])
			wantUnreadable(t, fmt.Sprintf("all but the first bytes of %v", plain), plain[n+1:])
		}
		wantGoodReply(t, r)
	}
}

func TestTextsWithMoreBehind(t *testing.T) {
	for _, b := range someBodies() {
		plain := trueBodyBytes(b)
		for more := range 256 {
			wantNoBody(t, fmt.Sprintf("%v and %d", plain, more), impl.DecodeBody(append(slices.Clone(plain), byte(more))))
		}
		for _, x := range []impl.Item{keyOf("a"), sizeOf(80, 24)} {
			// The count tells how many items there are; one more is none.
			wantNoBody(t, fmt.Sprintf("%v and %+v", plain, x), impl.DecodeBody(slices.Concat(plain, trueItemBytes(x))))
		}
		wantNoBody(t, fmt.Sprintf("%v twice", plain), impl.DecodeBody(slices.Concat(plain, plain)))
		wantReadRight(t, slices.Concat([]byte{0}, plain))
	}
	plain := trueReplyBytes(replyOf(1, 2, 65536))
	for more := range 256 {
		longer := append(slices.Clone(plain), byte(more))
		wantNoReply(t, fmt.Sprintf("%v and %d", plain, more), impl.DecodeReply(longer))
		wantReadRight(t, longer)
	}
	wantNoReply(t, "a reply twice", impl.DecodeReply(slices.Concat(plain, plain)))
	wantNoReply(t, "a reply behind a nought", impl.DecodeReply(slices.Concat([]byte{0}, plain)))
}

func TestTextsWithOneByteChanged(t *testing.T) {
	for _, b := range someBodies() {
		plain := trueBodyBytes(b)
		for place := range plain {
			for change := 1; change < 256; change++ {
				changed := slices.Clone(plain)
				changed[place] ^= byte(change)
				wantReadRight(t, changed)
				if got := impl.DecodeBody(changed); isBody(got.Body, b) && got.Code == impl.OK {
					t.Fatalf("%v and %v say the same", plain, changed)
				}
			}
		}
	}
	for _, r := range []impl.Reply{{}, replyOf(1, 2, 65536), replyOf(9000, 65535, 65535), replyOf(255, 256, 257)} {
		plain := trueReplyBytes(r)
		for place := range plain {
			for change := 1; change < 256; change++ {
				changed := slices.Clone(plain)
				changed[place] ^= byte(change)
				wantReadRight(t, changed)
				if impl.DecodeReply(changed) == (impl.ReplyResult{Reply: r}) {
					t.Fatalf("%v and %v say the same", plain, changed)
				}
			}
		}
	}
}

func TestTextsWithNumbersOutOfBounds(t *testing.T) {
	for _, n := range []int64{9001, 9002, 9999, 65535, 65536, 1<<24 + 5, 1 << 31, 1<<32 - 1} {
		start := trueStart(n, 2, 3)
		wantUnreadable(t, fmt.Sprint("the offset ", n), start)
		wantUnreadable(t, fmt.Sprint("the offset ", n), append(start, 0))
	}
	for _, n := range []int64{65537, 65538, 65791, 65792, 131071, 131072, 1 << 23, 1<<24 - 1} {
		start := trueStart(1, 2, n)
		wantUnreadable(t, fmt.Sprint("the echo ", n), start)
		wantUnreadable(t, fmt.Sprint("the echo ", n), append(start, 0))
	}
	for _, n := range []int64{0, 1, 65535, 65536} {
		wantReply(t, "DecodeReply", impl.DecodeReply(trueStart(1, 2, n)), replyOf(1, 2, n))
		wantBody(t, "DecodeBody", impl.DecodeBody(append(trueStart(1, 2, n), 0)), bodyOf(1, 2, n))
	}
	for _, n := range []int{0, 1, 2, 3, 4} {
		list := trueBodyBytes(bodyOf(9000-int64(n), 2, 3, someItems(n)...))
		wantBody(t, "up to the last offset", impl.DecodeBody(list), bodyOf(9000-int64(n), 2, 3, someItems(n)...))
		list[3]++
		wantUnreadable(t, fmt.Sprintf("%d items above the last offset", n), list)
	}
}

func TestTextsWithOtherCounts(t *testing.T) {
	for _, there := range []int{0, 1, 2, 3, 4, 5, 6, 8, 16, 100, 255, 256, 257} {
		items := someItems(there)
		for count := range 256 {
			plain := trueBodyBytes(bodyOf(1, 2, 3, items...))
			plain[9] = byte(count)
			name := fmt.Sprintf("the count %d of %d items", count, there)
			if count == there && there <= 4 {
				wantBody(t, name, impl.DecodeBody(plain), bodyOf(1, 2, 3, items...))
				continue
			}
			wantUnreadable(t, name, plain)
		}
	}
}

func TestTextsWithOtherKeys(t *testing.T) {
	start := append(trueStart(1, 2, 3), 1, impl.ItemKey)
	for size := range 256 {
		for _, there := range []int{0, 1, 2, 7, 8, 9, 254, 255, 256} {
			plain := slices.Concat(start, []byte{byte(size)}, countedBytes(there, 3))
			name := fmt.Sprintf("a key that tells %d bytes and has %d", size, there)
			if size == there && isWithin(int64(size), 1, 8) {
				wantBody(t, name, impl.DecodeBody(plain), bodyOf(1, 2, 3, keyOf(string(countedBytes(there, 3)))))
				continue
			}
			wantUnreadable(t, name, plain)
		}
	}
	// Between two keys only their sizes tell where the first one ends.
	for first := range 12 {
		for second := range 12 {
			plain := slices.Concat(trueStart(1, 2, 3), []byte{2, 1, byte(first), 1, 1, 1, 1, 1, 1, byte(second), 1, 1, 1})
			wantReadRight(t, plain)
		}
	}
}

func TestTextsWithOtherSizes(t *testing.T) {
	for n := range int64(65536) {
		wide := slices.Concat(trueStart(1, 2, 3), []byte{1}, trueItemBytes(sizeOf(n, 24)))
		high := slices.Concat(trueStart(1, 2, 3), []byte{1}, trueItemBytes(sizeOf(80, n)))
		if isWithin(n, 1, 999) {
			wantBody(t, "Cols", impl.DecodeBody(wide), bodyOf(1, 2, 3, sizeOf(n, 24)))
			wantBody(t, "Rows", impl.DecodeBody(high), bodyOf(1, 2, 3, sizeOf(80, n)))
			continue
		}
		wantUnreadable(t, fmt.Sprint("Cols of ", n), wide)
		wantUnreadable(t, fmt.Sprint("Rows of ", n), high)
	}
}

func TestTextsWithOtherKinds(t *testing.T) {
	for kind := range 256 {
		for _, behind := range [][]byte{nil, {0}, {1}, {1, 1}, {0, 80, 0, 24}, {4, 1, 2, 3, 4}, {0, 1, 0, 1}, {3, 0, 1, 0}} {
			plain := slices.Concat(trueStart(1, 2, 3), []byte{1, byte(kind)}, behind)
			wantReadRight(t, plain)
			if kind != impl.ItemKey && kind != impl.ItemSize {
				wantUnreadable(t, fmt.Sprintf("an item of the kind %d with %v", kind, behind), plain)
			}
		}
	}
}

func TestTextsOfNothingAndOfMuch(t *testing.T) {
	wantUnreadable(t, "nil", nil)
	wantUnreadable(t, "no bytes", []byte{})
	for n := range 70 {
		for _, filled := range []byte{0, 1, 2, 3, 97, 255} {
			wantReadRight(t, bytes.Repeat([]byte{filled}, n))
		}
		wantReadRight(t, countedBytes(n, 0))
	}
	for _, n := range []int{300, 301, 1 << 16, 1<<16 + 9, 1<<16 + 10, 1 << 20} {
		for _, filled := range []byte{0, 1, 2, 255} {
			wantUnreadable(t, fmt.Sprintf("%d times %d", n, filled), bytes.Repeat([]byte{filled}, n))
		}
		wantUnreadable(t, "a body, and much behind it", append(trueBodyBytes(bodyOf(1, 2, 3, someItems(4)...)), make([]byte, n)...))
		wantUnreadable(t, "a reply, and much behind it", append(trueReplyBytes(replyOf(1, 2, 3)), make([]byte, n)...))
	}
}

// Each text of so many of these bytes is tried behind the same start, so that no two of them can say the same.
func TestEveryShortText(t *testing.T) {
	letters := []byte{0, 1, 2, 3, 8, 9, 231, 255}
	start := trueStart(8998, 2, 65536)
	var tryAll func(plain []byte, more int)
	tryAll = func(plain []byte, more int) {
		wantReadRight(t, plain)
		if more == 0 {
			return
		}
		for _, letter := range letters {
			tryAll(append(plain, letter), more-1)
		}
	}
	tryAll(start, 6)
}

func TestTextsByChance(t *testing.T) {
	random := rand.New(rand.NewPCG(7, 1))
	for range 200000 {
		b := bodyOf(random.Int64N(9003), random.Int64N(65536), random.Int64N(65540), someItems(12)[random.IntN(9):][:random.IntN(4)]...)
		plain := trueBodyBytes(b)
		for range random.IntN(3) {
			switch place := random.IntN(len(plain)); random.IntN(3) {
			case 0:
				plain[place] = byte(random.IntN(12))
			case 1:
				plain = slices.Insert(plain, place, byte(random.IntN(4)))
			case 2:
				plain = slices.Delete(plain, place, place+1)
			}
		}
		wantReadRight(t, plain)
	}
}

func TestBodiesByChance(t *testing.T) {
	random := rand.New(rand.NewPCG(7, 2))
	for range 50000 {
		var items []impl.Item
		for range random.IntN(5) {
			x := sizeOf(random.Int64N(999)+1, random.Int64N(999)+1)
			if random.IntN(2) == 0 {
				x = impl.Item{Kind: impl.ItemKey, Bytes: countedBytes(random.IntN(8)+1, byte(random.IntN(256)))}
			}
			items = append(items, x)
		}
		b := bodyOf(random.Int64N(8997), random.Int64N(65536), random.Int64N(65537), items...)
		wantGoodBody(t, b)
		wantGoodReply(t, replyOf(b.Base, b.Stamp, b.Echo))
	}
}

// A body has one byte more than a reply, if not many more, so nobody takes one for the other.
func TestBodiesAndRepliesAreTold(t *testing.T) {
	for _, b := range someBodies() {
		r := replyOf(b.Base, b.Stamp, b.Echo)
		wantNoReply(t, "DecodeReply of a body", impl.DecodeReply(impl.EncodeBody(b).Bytes))
		wantNoBody(t, "DecodeBody of a reply", impl.DecodeBody(impl.EncodeReply(r).Bytes))
	}
}

func TestEmptyListAndNilOfBodiesAlike(t *testing.T) {
	for _, b := range []impl.Body{{}, bodyOf(9000, 65535, 65536), bodyOf(5, 6, 7)} {
		b.Items = []impl.Item{}
		wantGoodBody(t, b)
		b.Items = nil
		wantGoodBody(t, b)
		wantBytes(t, "no items", impl.EncodeBody(b), trueBodyBytes(b))
	}
	for _, n := range []int64{-1, 9001} {
		wantBadBody(t, impl.Body{Base: n, Items: []impl.Item{}}, impl.ErrRange)
		wantBadBody(t, impl.Body{Base: n}, impl.ErrRange)
	}
	wantGoodBody(t, bodyOf(5, 6, 7, impl.Item{Kind: impl.ItemSize, Bytes: []byte{}, Cols: 80, Rows: 24}))
	wantBadBody(t, bodyOf(5, 6, 7, impl.Item{Kind: impl.ItemKey, Bytes: []byte{}}), impl.ErrMany)
	got := impl.DecodeBody(trueBodyBytes(bodyOf(5, 6, 7, sizeOf(80, 24))))
	if len(got.Body.Items) != 1 || len(got.Body.Items[0].Bytes) != 0 {
		t.Errorf("a size that was read has bytes: %+v", got)
	}
}

func TestWireArgumentsStay(t *testing.T) {
	faulty := faultyItems()
	lists := [][]impl.Item{nil, someItems(1), someItems(3), someItems(4), someItems(5), itemsThatDiffer(), faulty[impl.ErrForm], faulty[impl.ErrMany], faulty[impl.ErrRange]}
	for n, list := range lists {
		items := newItemsGuard(list)
		for _, base := range []int64{0, 7, 8996, 9000, -1, 9001} {
			b := bodyOf(base, 8, 9, items.list()...)
			impl.BodyFault(b)
			overwrite(impl.EncodeBody(b).Bytes)
		}
		items.mustBeSame(t, fmt.Sprint("list ", n))
	}
	for _, b := range someBodies() {
		for _, text := range [][]byte{trueBodyBytes(b), trueBodyBytes(b)[1:], append(trueBodyBytes(b), 0), trueStart(b.Base, b.Stamp, b.Echo)} {
			plain := newGuard(text)
			overwriteItems(impl.DecodeBody(plain.list()).Body.Items)
			impl.DecodeReply(plain.list())
			plain.mustBeSame(t, fmt.Sprint(text))
		}
	}
}

func TestWireAnswersAreNew(t *testing.T) {
	for _, b := range someBodies() {
		was := bodyOf(b.Base, b.Stamp, b.Echo, cloneItems(b.Items)...)
		encoded := impl.EncodeBody(b)
		overwrite(impl.EncodeBody(b).Bytes)
		overwriteItems(b.Items)
		wantBytes(t, "EncodeBody behind a change of all else", encoded, trueBodyBytes(was))
		plain := trueBodyBytes(was)
		decoded := impl.DecodeBody(plain)
		overwriteItems(impl.DecodeBody(plain).Body.Items)
		overwrite(plain)
		wantBody(t, "DecodeBody behind a change of all else", decoded, was)
	}
	r := replyOf(1, 2, 65536)
	encoded := impl.EncodeReply(r)
	overwrite(impl.EncodeReply(r).Bytes)
	wantBytes(t, "EncodeReply behind a change of all else", encoded, trueReplyBytes(r))
}

func TestItemsOfOneBodyShareNothing(t *testing.T) {
	for n := 1; n <= 4; n++ {
		for size := 1; size <= 8; size++ {
			text := strings.Repeat("k", size)
			plain := trueBodyBytes(bodyOf(7, 8, 9, slices.Repeat([]impl.Item{keyOf(text)}, n)...))
			mustBeApart(t, "DecodeBody", impl.DecodeBody(plain).Body.Items, text)
		}
	}
}

func TestWireAnswersHangOnArgumentsAlone(t *testing.T) {
	good := bodyOf(7, 8, 9, someItems(4)...)
	plain := trueBodyBytes(good)
	for range 20 {
		wantGoodBody(t, good)
		wantUnreadable(t, "a byte too few", plain[:len(plain)-1])
		wantBadBody(t, bodyOf(8997, 8, 9, someItems(4)...), impl.ErrFull)
		wantBody(t, "DecodeBody behind a fault", impl.DecodeBody(plain), good)
		wantGoodReply(t, replyOf(1, 2, 65536))
		wantBadReply(t, replyOf(1, 65536, 2))
		wantUnreadable(t, "nothing", nil)
		wantReply(t, "DecodeReply behind a fault", impl.DecodeReply([]byte{0, 0, 0, 1, 0, 2, 1, 0, 0}), replyOf(1, 2, 65536))
	}
}

func TestWireAnswersAtOneTime(t *testing.T) {
	items := someItems(4)
	plain := trueBodyBytes(bodyOf(7, 8, 9, items...))
	var group sync.WaitGroup
	for worker := range int64(8) {
		group.Go(func() {
			for base := worker; base < 8996; base += 50 {
				wantGoodBody(t, bodyOf(base, base*7, 65536-base, items...))
				wantGoodReply(t, replyOf(base, base*7, 65536-base))
				wantBody(t, "DecodeBody", impl.DecodeBody(plain), bodyOf(7, 8, 9, items...))
				wantUnreadable(t, "a text that is cut off", plain[:len(plain)-1-int(worker)])
			}
		})
	}
	group.Wait()
}
