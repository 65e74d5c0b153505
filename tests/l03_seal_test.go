package tests

import (
	"bytes"
	"encoding/binary"
	"math"
	"strconv"
	"sync"
	"testing"

	"loop.example/g00799/impl"
)

const leastPacket = impl.HeadSize + impl.TagSize
const mostPacket = leastPacket + impl.MaxPlain

// plainSizes are all the edges of the blocks that hide a plain, and of MaxPlain.
var plainSizes = []int{0, 1, 2, 31, 32, 33, 63, 64, 65, 95, 96, 97, 119, 120}

var goodSeqs = []int64{0, 1, 255, 256, 300, 4095, 9998, 9999}

var badSeqs = []int64{-1, -2, -9999, 10000, 10001, 65536, 1 << 24, 1 << 32, 1<<32 + 5, math.MaxInt64, math.MinInt64}

var badSides = []int64{-1, 2, 3, 255, 256, 257, 1 << 32, math.MaxInt64, math.MinInt64}

var badKeySizes = []int{0, 1, 16, 31, 33, 64, 65, impl.MaxBytes + 1}

func countedKey() []byte {
	key := make([]byte, impl.KeySize)
	for i := range key {
		key[i] = byte(i)
	}
	return key
}

func trueHead(side byte, seq uint32) []byte {
	return binary.BigEndian.AppendUint32([]byte{side}, seq)
}

// trueHidden is told otherwise than in the program: byte by byte, each with the whole block in which its own one stands.
func trueHidden(key []byte, head []byte, data []byte) []byte {
	hidden := bytes.Clone(data)
	for i := range hidden {
		block := trueMac(key, append(bytes.Clone(head), byte(1+i/32)))
		hidden[i] ^= block[i%32]
	}
	return hidden
}

func trueTag(key []byte, data []byte) []byte {
	return trueMac(key, append([]byte{255}, data...))[:8]
}

// tagged puts the right tag behind anything, so that only the other codes of a packet can be so.
func tagged(key []byte, data []byte) []byte {
	return append(bytes.Clone(data), trueTag(key, data)...)
}

func trueSealed(key []byte, side byte, seq uint32, plain []byte) []byte {
	head := trueHead(side, seq)
	return tagged(key, append(head, trueHidden(key, head, plain)...))
}

func wantPacket(t *testing.T, name string, got impl.PacketResult, side int64, seq int64, plain []byte) {
	t.Helper()
	if got.Code != impl.OK || got.Side != side || got.Seq != seq || !bytes.Equal(got.Plain, plain) {
		t.Errorf("%s: %+v; want code 0, side %d, number %d, plain %v", name, got, side, seq, plain)
	}
}

func wantPacketFault(t *testing.T, name string, got impl.PacketResult, code int64) {
	t.Helper()
	if got.Code != code || got.Side != 0 || got.Seq != 0 || len(got.Plain) != 0 {
		t.Errorf("%s: %+v; want code %d and zeros", name, got, code)
	}
}

func TestSealSizes(t *testing.T) {
	got := []int64{impl.KeySize, impl.TagSize, impl.HeadSize, impl.MaxPlain, impl.MaxSeq, impl.SideClient, impl.SideServer}
	for i, want := range []int64{32, 8, 5, 120, 9999, 0, 1} {
		if got[i] != want {
			t.Errorf("constant %d is %d; want %d", i, got[i], want)
		}
	}
}

func TestSealPacketKnownBytes(t *testing.T) {
	cases := []struct {
		side, seq int64
		plain     string
		want      string
	}{
		{0, 0, "", "0000000000a15be224d1461421"},
		{1, 300, "hi", "010000012c294fc9100e633b72f8e1"},
		{0, 9999, "What is typed arrives once, and in order.", "000000270f41dffbd5d891037308f4ac938c1206c3c45592e3d102a6258f8c880004afa18943f3ef17cb9957a19dd4263c5da75d74d1"},
	}
	for _, c := range cases {
		want := fromHex(t, c.want)
		wantBytes(t, "SealPacket "+strconv.Quote(c.plain), impl.SealPacket(countedKey(), c.side, c.seq, []byte(c.plain)), want)
		wantPacket(t, "OpenPacket "+strconv.Quote(c.plain), impl.OpenPacket(countedKey(), want), c.side, c.seq, []byte(c.plain))
	}
}

func TestHideBytesOfEverySize(t *testing.T) {
	// The last three are no heads of a packet: HideBytes asks only how many bytes they have.
	heads := [][]byte{trueHead(0, 0), trueHead(1, 0), trueHead(0, 9999), trueHead(0, 10000), {2, 0, 0, 0, 0}, {255, 255, 255, 255, 255}}
	for size := range impl.MaxPlain + 1 {
		for _, data := range someMessages(size) {
			for _, head := range heads {
				name := "HideBytes of " + strconv.Itoa(size)
				got := impl.HideBytes(countedKey(), head, data)
				wantBytes(t, name, got, trueHidden(countedKey(), head, data))
				wantBytes(t, name+", hidden twice", impl.HideBytes(countedKey(), head, got.Bytes), data)
			}
		}
	}
}

func TestHidingHangsOnKeyAndHead(t *testing.T) {
	zeros := make([]byte, impl.MaxPlain)
	stream := impl.HideBytes(countedKey(), trueHead(0, 1), zeros).Bytes
	for _, other := range [][]byte{
		impl.HideBytes(countedKey(), trueHead(1, 1), zeros).Bytes,
		impl.HideBytes(countedKey(), trueHead(0, 2), zeros).Bytes,
		impl.HideBytes(make([]byte, impl.KeySize), trueHead(0, 1), zeros).Bytes,
	} {
		if len(other) != len(stream) || bytes.Equal(other, stream) {
			t.Error("another key or head hides by the same bytes, or by fewer")
		}
	}
	if bytes.Equal(stream[:32], stream[32:64]) || bytes.Equal(stream[32:64], stream[64:96]) {
		t.Error("two blocks hide by the same bytes")
	}
}

func TestHideBytesCodes(t *testing.T) {
	for _, keySize := range append([]int{32}, badKeySizes...) {
		for _, headSize := range []int{0, 1, 4, 5, 6, 13, 32, 301} {
			for _, size := range []int{0, 1, 120, 121, 128, 300, 301} {
				name := "HideBytes by " + strconv.Itoa(keySize) + " and " + strconv.Itoa(headSize) + " of " + strconv.Itoa(size)
				got := impl.HideBytes(countedBytes(keySize, 1), countedBytes(headSize, 2), countedBytes(size, 3))
				if keySize != 32 || headSize != 5 {
					wantBytesFault(t, name, got, impl.ErrRange)
				} else if size > 120 {
					wantBytesFault(t, name, got, impl.ErrMany)
				} else {
					wantBytes(t, name, got, trueHidden(countedBytes(32, 1), countedBytes(5, 2), countedBytes(size, 3)))
				}
			}
		}
	}
}

func TestTagOfEverySize(t *testing.T) {
	for size := range impl.MaxBytes + 1 {
		for _, data := range someMessages(size) {
			got := impl.TagOf(countedKey(), data)
			if len(got.Bytes) != impl.TagSize {
				t.Errorf("TagOf %d bytes has %d bytes", size, len(got.Bytes))
			}
			wantBytes(t, "TagOf "+strconv.Itoa(size), got, trueTag(countedKey(), data))
		}
	}
}

func TestTagOfCodes(t *testing.T) {
	for _, size := range []int{impl.MaxBytes + 1, impl.MaxBytes + 2, 1 << 16} {
		wantBytesFault(t, "TagOf "+strconv.Itoa(size), impl.TagOf(countedKey(), make([]byte, size)), impl.ErrMany)
	}
	for _, keySize := range badKeySizes {
		for _, size := range []int{0, 1, impl.MaxBytes, impl.MaxBytes + 1} {
			name := "TagOf " + strconv.Itoa(size) + " by a key of " + strconv.Itoa(keySize)
			wantBytesFault(t, name, impl.TagOf(make([]byte, keySize), countedBytes(size, 4)), impl.ErrRange)
		}
	}
}

func TestWhatIsSealedIsOpened(t *testing.T) {
	for _, size := range plainSizes {
		for i, plain := range someMessages(size) {
			key := countedBytes(impl.KeySize, byte(50*i))
			for side := range int64(2) {
				for _, seq := range goodSeqs {
					name := "side " + strconv.FormatInt(side, 10) + ", number " + strconv.FormatInt(seq, 10) + ", " + strconv.Itoa(size) + " bytes"
					sealed := impl.SealPacket(key, side, seq, plain)
					wantBytes(t, name, sealed, trueSealed(key, byte(side), uint32(seq), plain))
					wantPacket(t, name+", head", impl.HeadOf(sealed.Bytes), side, seq, nil)
					wantPacket(t, name+", opened", impl.OpenPacket(key, sealed.Bytes), side, seq, plain)
				}
			}
		}
	}
}

func TestEveryNumberIsSealedAndOpened(t *testing.T) {
	for seq := range int64(impl.MaxSeq + 1) {
		side := seq % 2
		sealed := impl.SealPacket(countedKey(), side, seq, []byte{7})
		head := impl.HeadOf(sealed.Bytes)
		if head.Code != impl.OK || head.Side != side || head.Seq != seq {
			t.Fatalf("number %d: head %+v", seq, head)
		}
		wantPacket(t, "number "+strconv.FormatInt(seq, 10), impl.OpenPacket(countedKey(), sealed.Bytes), side, seq, []byte{7})
	}
}

func TestWhatIsOpenedIsWhatWasSealed(t *testing.T) {
	for size := leastPacket; size <= mostPacket; size++ {
		packet := tagged(countedKey(), append(trueHead(1, uint32(size)), countedBytes(size-leastPacket, 8)...))
		opened := impl.OpenPacket(countedKey(), packet)
		name := "a packet of " + strconv.Itoa(size)
		if opened.Code != impl.OK || len(opened.Plain) != size-leastPacket {
			t.Errorf("%s: %+v", name, opened)
		}
		wantBytes(t, name+", sealed again", impl.SealPacket(countedKey(), opened.Side, opened.Seq, opened.Plain), packet)
	}
}

func TestSealPacketCodes(t *testing.T) {
	long := countedBytes(impl.MaxPlain+1, 1)
	wantBytesFault(t, "SealPacket of one more than MaxPlain", impl.SealPacket(countedKey(), 0, 0, long), impl.ErrMany)
	wantBytesFault(t, "SealPacket of MaxBytes", impl.SealPacket(countedKey(), 1, 9999, countedBytes(impl.MaxBytes, 1)), impl.ErrMany)
	wantBytesFault(t, "SealPacket of very many", impl.SealPacket(countedKey(), 1, 9999, make([]byte, 1<<16)), impl.ErrMany)
	for _, plain := range [][]byte{nil, {1}, long[:impl.MaxPlain], long} {
		for _, side := range badSides {
			name := "SealPacket with the side " + strconv.FormatInt(side, 10)
			wantBytesFault(t, name, impl.SealPacket(countedKey(), side, 0, plain), impl.ErrRange)
			wantBytesFault(t, name, impl.SealPacket(countedKey(), side, 10000, plain), impl.ErrRange)
		}
		for _, seq := range badSeqs {
			name := "SealPacket with the number " + strconv.FormatInt(seq, 10)
			wantBytesFault(t, name, impl.SealPacket(countedKey(), 0, seq, plain), impl.ErrRange)
			wantBytesFault(t, name, impl.SealPacket(countedKey(), 1, seq, plain), impl.ErrRange)
		}
		for _, keySize := range badKeySizes {
			name := "SealPacket by a key of " + strconv.Itoa(keySize)
			wantBytesFault(t, name, impl.SealPacket(make([]byte, keySize), 0, 0, plain), impl.ErrRange)
			wantBytesFault(t, name, impl.SealPacket(make([]byte, keySize), 2, -1, plain), impl.ErrRange)
		}
	}
}

func TestPacketsOfEverySize(t *testing.T) {
	key := countedKey()
	wantPacketFault(t, "HeadOf nil", impl.HeadOf(nil), impl.ErrMany)
	wantPacketFault(t, "OpenPacket of nil", impl.OpenPacket(key, nil), impl.ErrMany)
	for size := range mostPacket + 50 {
		// No head among these: the size is asked ahead of the head and of the tag.
		bad := bytes.Repeat([]byte{255}, size)
		good := make([]byte, size)
		if size >= leastPacket {
			good = tagged(key, good[:size-impl.TagSize])
		}
		name := "a packet of " + strconv.Itoa(size)
		if size < leastPacket || size > mostPacket {
			wantPacketFault(t, "HeadOf "+name, impl.HeadOf(good), impl.ErrMany)
			wantPacketFault(t, "HeadOf "+name, impl.HeadOf(bad), impl.ErrMany)
			wantPacketFault(t, "OpenPacket of "+name, impl.OpenPacket(key, good), impl.ErrMany)
			wantPacketFault(t, "OpenPacket of "+name, impl.OpenPacket(key, bad), impl.ErrMany)
			continue
		}
		plain := trueHidden(key, make([]byte, 5), make([]byte, size-leastPacket))
		wantPacket(t, "HeadOf "+name, impl.HeadOf(good), 0, 0, nil)
		wantPacketFault(t, "HeadOf "+name, impl.HeadOf(bad), impl.ErrText)
		wantPacket(t, "OpenPacket of "+name, impl.OpenPacket(key, good), 0, 0, plain)
		wantPacketFault(t, "OpenPacket of "+name, impl.OpenPacket(key, bad), impl.ErrText)
	}
}

func TestPacketOfHeadAndTagAlone(t *testing.T) {
	key := countedKey()
	packet := tagged(key, trueHead(1, 9999))
	for _, plain := range [][]byte{nil, {}} {
		wantBytes(t, "SealPacket of nothing", impl.SealPacket(key, 1, 9999, plain), packet)
	}
	wantPacket(t, "OpenPacket of a head and a tag", impl.OpenPacket(key, packet), 1, 9999, nil)
	wantPacketFault(t, "OpenPacket of one byte less", impl.OpenPacket(key, packet[:12]), impl.ErrMany)
	wantPacketFault(t, "OpenPacket of one byte less ahead", impl.OpenPacket(key, packet[1:]), impl.ErrMany)
	wantPacketFault(t, "OpenPacket of a head alone", impl.OpenPacket(key, packet[:5]), impl.ErrMany)
	wantPacketFault(t, "OpenPacket of an empty list", impl.OpenPacket(key, []byte{}), impl.ErrMany)
	wantPacketFault(t, "HeadOf an empty list", impl.HeadOf([]byte{}), impl.ErrMany)
}

func TestHeadsThatAreNotSo(t *testing.T) {
	key := countedKey()
	var heads [][]byte
	for side := 2; side < 256; side++ {
		heads = append(heads, trueHead(byte(side), 0), trueHead(byte(side), 9999))
	}
	for _, seq := range []uint32{10000, 10001, 16383, 65535, 65536, 1 << 24, 1<<24 + 5, 1 << 31, math.MaxUint32} {
		heads = append(heads, trueHead(0, seq), trueHead(1, seq), trueHead(2, seq))
	}
	for _, head := range heads {
		for _, size := range []int{0, 1, impl.MaxPlain} {
			name := "a packet with the head " + strconv.Quote(string(head))
			right := tagged(key, append(bytes.Clone(head), countedBytes(size, 6)...))
			wrong := bytes.Clone(right)
			wrong[len(wrong)-1]++
			wantPacketFault(t, "HeadOf "+name, impl.HeadOf(right), impl.ErrText)
			wantPacketFault(t, "OpenPacket of "+name, impl.OpenPacket(key, right), impl.ErrText)
			wantPacketFault(t, "OpenPacket of "+name+", tag wrong", impl.OpenPacket(key, wrong), impl.ErrText)
		}
	}
}

// headIsSo tells from the bytes alone whether OpenPacket comes to ask the tag.
func headIsSo(packet []byte) bool {
	return packet[0] <= 1 && binary.BigEndian.Uint32(packet[1:5]) <= 9999
}

func TestEachTurnedByteIsSeen(t *testing.T) {
	key := countedKey()
	for _, size := range []int{0, 1, 2, 32, 33, impl.MaxPlain} {
		packet := impl.SealPacket(key, 0, 300, countedBytes(size, 9)).Bytes
		for place := range packet {
			for _, turn := range []byte{1, 2, 4, 8, 16, 32, 64, 128, 255} {
				turned := bytes.Clone(packet)
				turned[place] ^= turn
				name := strconv.Itoa(size) + " bytes, byte " + strconv.Itoa(place) + " turned by " + strconv.Itoa(int(turn))
				code := int64(impl.ErrText)
				if headIsSo(turned) {
					code = impl.ErrSum
				}
				wantPacketFault(t, name, impl.OpenPacket(key, turned), code)
				if head := impl.HeadOf(turned); headIsSo(turned) != (head.Code == impl.OK) {
					t.Errorf("%s: head %+v", name, head)
				}
			}
		}
		wantPacket(t, "the packet as it was", impl.OpenPacket(key, packet), 0, 300, countedBytes(size, 9))
	}
}

func TestMadeUpPacketsAreNotOpened(t *testing.T) {
	key := countedKey()
	packet := impl.SealPacket(key, 1, 5, []byte("something")).Bytes
	other := impl.SealPacket(key, 1, 5, []byte("otherwise")).Bytes
	end := len(packet) - impl.TagSize
	// Tags that are nearly so: of what is hidden alone, of the head alone, with no mark ahead, with the mark behind.
	tags := [][]byte{
		trueTag(key, packet[impl.HeadSize:end]),
		trueTag(key, packet[:impl.HeadSize]),
		trueMac(key, packet[:end])[:8],
		trueMac(key, append(bytes.Clone(packet[:end]), 255))[:8],
		trueMac(key, append([]byte{255}, packet[:end]...))[24:],
		other[end:],
		make([]byte, 8),
	}
	for i, tag := range tags {
		made := append(bytes.Clone(packet[:end]), tag...)
		wantPacketFault(t, "made up tag "+strconv.Itoa(i), impl.OpenPacket(key, made), impl.ErrSum)
	}
	wantPacketFault(t, "one byte less at the end", impl.OpenPacket(key, packet[:len(packet)-1]), impl.ErrSum)
	wantPacketFault(t, "one byte more at the end", impl.OpenPacket(key, append(bytes.Clone(packet), 0)), impl.ErrSum)
	for bit := range 8 * impl.KeySize {
		nearly := bytes.Clone(key)
		nearly[bit/8] ^= 1 << (bit % 8)
		wantPacketFault(t, "a key that is nearly so", impl.OpenPacket(nearly, packet), impl.ErrSum)
	}
}

func TestKeyIsAskedFirst(t *testing.T) {
	key := countedKey()
	good := impl.SealPacket(key, 0, 1, []byte{1}).Bytes
	noHead := tagged(key, bytes.Repeat([]byte{9}, 20))
	for _, keySize := range badKeySizes {
		bad := append(countedKey(), countedBytes(keySize, 1)...)[:keySize]
		for _, packet := range [][]byte{nil, good[:3], good, noHead, make([]byte, mostPacket+1)} {
			name := "OpenPacket of " + strconv.Itoa(len(packet)) + " by a key of " + strconv.Itoa(keySize)
			wantPacketFault(t, name, impl.OpenPacket(bad, packet), impl.ErrRange)
		}
	}
	wantPacketFault(t, "OpenPacket of nothing by nothing", impl.OpenPacket(nil, nil), impl.ErrRange)
}

func TestSealArgumentsStay(t *testing.T) {
	for _, keySize := range []int{0, 31, 32, 33} {
		for _, headSize := range []int{0, 4, 5, 6} {
			for _, size := range []int{0, 1, 12, 13, 32, 33, 120, 121, 133, 134, 300, 301} {
				name := strconv.Itoa(keySize) + ", " + strconv.Itoa(headSize) + " and " + strconv.Itoa(size)
				key, head, data := newGuard(countedBytes(keySize, 5)), newGuard(countedBytes(headSize, 6)), newGuard(make([]byte, size))
				overwrite(impl.HideBytes(key.list(), head.list(), data.list()).Bytes)
				overwrite(impl.TagOf(key.list(), data.list()).Bytes)
				overwrite(impl.TagOf(key.list(), key.list()).Bytes)
				overwrite(impl.SealPacket(key.list(), 1, 300, data.list()).Bytes)
				overwrite(impl.SealPacket(key.list(), 1, 300, key.list()).Bytes)
				overwrite(impl.HeadOf(data.list()).Plain)
				overwrite(impl.OpenPacket(key.list(), data.list()).Plain)
				key.mustBeSame(t, name+", key")
				head.mustBeSame(t, name+", head")
				data.mustBeSame(t, name+", data")
			}
		}
	}
}

func TestOpenedArgumentsStay(t *testing.T) {
	for _, size := range plainSizes {
		plain := countedBytes(size, 7)
		key := newGuard(countedKey())
		packet := newGuard(trueSealed(countedKey(), 1, 300, plain))
		opened := impl.OpenPacket(key.list(), packet.list())
		wantPacket(t, "OpenPacket", opened, 1, 300, plain)
		overwrite(opened.Plain)
		overwrite(impl.HeadOf(packet.list()).Plain)
		key.mustBeSame(t, "key")
		packet.mustBeSame(t, "packet")
	}
}

func TestSealAnswersAreNew(t *testing.T) {
	key, head, data := countedKey(), trueHead(1, 7), countedBytes(40, 3)
	packet := trueSealed(key, 1, 7, data)
	hidden, tag, sealed, plain := trueHidden(key, head, data), trueTag(key, data), bytes.Clone(packet), bytes.Clone(data)
	gotHidden, gotTag := impl.HideBytes(key, head, data), impl.TagOf(key, data)
	gotSealed, gotOpened := impl.SealPacket(key, 1, 7, data), impl.OpenPacket(key, packet)
	overwrite(impl.HideBytes(key, head, data).Bytes)
	overwrite(impl.TagOf(key, data).Bytes)
	overwrite(impl.SealPacket(key, 1, 7, data).Bytes)
	overwrite(impl.OpenPacket(key, packet).Plain)
	for _, argument := range [][]byte{key, head, data, packet} {
		overwrite(argument)
	}
	wantBytes(t, "HideBytes behind a change of all else", gotHidden, hidden)
	wantBytes(t, "TagOf behind a change of all else", gotTag, tag)
	wantBytes(t, "SealPacket behind a change of all else", gotSealed, sealed)
	wantPacket(t, "OpenPacket behind a change of all else", gotOpened, 1, 7, plain)
}

// A number that was opened once is opened again here: only a replay window takes each number once.
func TestSealAnswersHangOnArgumentsAlone(t *testing.T) {
	key, plain := countedKey(), countedBytes(50, 2)
	packet := trueSealed(key, 0, 9, plain)
	turned := bytes.Clone(packet)
	turned[20]++
	for range 3 {
		wantBytes(t, "SealPacket", impl.SealPacket(key, 0, 9, plain), packet)
		wantPacket(t, "OpenPacket", impl.OpenPacket(key, packet), 0, 9, plain)
		wantPacketFault(t, "OpenPacket", impl.OpenPacket(key, turned), impl.ErrSum)
		wantPacketFault(t, "OpenPacket", impl.OpenPacket(nil, packet), impl.ErrRange)
		wantPacketFault(t, "OpenPacket", impl.OpenPacket(key, nil), impl.ErrMany)
		wantBytesFault(t, "SealPacket", impl.SealPacket(key, 0, 10000, plain), impl.ErrRange)
		wantBytes(t, "HideBytes", impl.HideBytes(key, trueHead(0, 9), plain), trueHidden(key, trueHead(0, 9), plain))
		wantBytes(t, "TagOf", impl.TagOf(key, plain), trueTag(key, plain))
	}
}

func TestEmptyListAndNilSealAlike(t *testing.T) {
	key, none := countedKey(), []byte{}
	wantBytes(t, "HideBytes of an empty list", impl.HideBytes(key, trueHead(0, 1), none), nil)
	wantBytes(t, "HideBytes of nil", impl.HideBytes(key, trueHead(0, 1), nil), nil)
	wantBytes(t, "TagOf an empty list", impl.TagOf(key, none), trueTag(key, nil))
	wantBytes(t, "TagOf nil", impl.TagOf(key, nil), trueTag(key, nil))
	wantBytesFault(t, "HideBytes with an empty head", impl.HideBytes(key, none, none), impl.ErrRange)
	wantBytesFault(t, "HideBytes with no head", impl.HideBytes(key, nil, nil), impl.ErrRange)
	wantBytesFault(t, "HideBytes with an empty key", impl.HideBytes(none, trueHead(0, 1), nil), impl.ErrRange)
	wantBytesFault(t, "TagOf with an empty key", impl.TagOf(none, nil), impl.ErrRange)
	wantBytesFault(t, "SealPacket with an empty key", impl.SealPacket(none, 0, 0, nil), impl.ErrRange)
}

func TestSealAnswersAtOneTime(t *testing.T) {
	var group sync.WaitGroup
	for seed := range 8 {
		group.Go(func() {
			key := countedBytes(impl.KeySize, byte(seed))
			for size := range impl.MaxPlain + 1 {
				plain := countedBytes(size, byte(seed))
				packet := trueSealed(key, 1, uint32(size), plain)
				wantBytes(t, "SealPacket beside other calls", impl.SealPacket(key, 1, int64(size), plain), packet)
				wantPacket(t, "OpenPacket beside other calls", impl.OpenPacket(key, packet), 1, int64(size), plain)
			}
		})
	}
	group.Wait()
}
