package tests

import (
	"bytes"
	"crypto/hmac"
	"crypto/sha256"
	"encoding/binary"
	"encoding/hex"
	"strconv"
	"strings"
	"sync"
	"testing"

	"loop.example/g00799/impl"
)

// someMessages are messages of one size that differ from each other in many bits.
func someMessages(size int) [][]byte {
	return [][]byte{make([]byte, size), bytes.Repeat([]byte{255}, size), bytes.Repeat([]byte{128}, size), countedBytes(size, 3), countedBytes(size, 200)}
}

// padded is told otherwise than in the program: zeros are added one by one until the length fits.
func padded(data []byte) []byte {
	all := append(bytes.Clone(data), 128)
	for len(all)%64 != 56 {
		all = append(all, 0)
	}
	return binary.BigEndian.AppendUint64(all, uint64(len(data)*8))
}

func trueHash(data []byte) []byte {
	sum := sha256.Sum256(data)
	return sum[:]
}

func trueMac(key []byte, data []byte) []byte {
	mac := hmac.New(sha256.New, key)
	mac.Write(data)
	return mac.Sum(nil)
}

func fromHex(t *testing.T, text string) []byte {
	t.Helper()
	data, err := hex.DecodeString(text)
	if err != nil {
		t.Fatal(err)
	}
	return data
}

func TestHashSizes(t *testing.T) {
	if impl.HashSize != 32 || impl.BlockSize != 64 {
		t.Errorf("HashSize is %d, BlockSize is %d", impl.HashSize, impl.BlockSize)
	}
}

func TestPadMessageBytes(t *testing.T) {
	empty := make([]byte, 64)
	empty[0] = 128
	wantBytes(t, "PadMessage of nil", impl.PadMessage(nil), empty)
	wantBytes(t, "PadMessage of an empty list", impl.PadMessage([]byte{}), empty)

	abc := make([]byte, 64)
	copy(abc, "abc\x80")
	abc[63] = 24
	wantBytes(t, "PadMessage of abc", impl.PadMessage([]byte("abc")), abc)

	// 55 bytes are the most that fit into one block, with no zero between the mark and the length.
	full := append(countedBytes(55, 1), 128, 0, 0, 0, 0, 0, 0, 1, 184)
	wantBytes(t, "PadMessage of 55 bytes", impl.PadMessage(countedBytes(55, 1)), full)
}

func TestPadMessageSizes(t *testing.T) {
	cases := []struct{ size, want int }{
		{0, 64}, {1, 64}, {54, 64}, {55, 64},
		{56, 128}, {57, 128}, {62, 128}, {63, 128}, {64, 128}, {65, 128}, {118, 128}, {119, 128},
		{120, 192}, {127, 192}, {128, 192}, {183, 192}, {184, 256}, {247, 256}, {248, 320},
		{impl.MaxBytes - 1, 320}, {impl.MaxBytes, 320},
	}
	for _, c := range cases {
		if got := impl.PadMessage(make([]byte, c.size)); got.Code != impl.OK || len(got.Bytes) != c.want {
			t.Errorf("PadMessage of %d bytes: code %d, %d bytes; want %d bytes", c.size, got.Code, len(got.Bytes), c.want)
		}
	}
}

func TestPadMessageOfEverySize(t *testing.T) {
	for size := range impl.MaxBytes + 1 {
		for _, data := range someMessages(size) {
			wantBytes(t, "PadMessage of "+strconv.Itoa(size), impl.PadMessage(data), padded(data))
		}
	}
}

func TestHashOfKnownMessages(t *testing.T) {
	cases := []struct{ data, want string }{
		{"", "e3b0c44298fc1c149afbf4c8996fb92427ae41e4649b934ca495991b7852b855"},
		{"abc", "ba7816bf8f01cfea414140de5dae2223b00361a396177a9cb410ff61f20015ad"},
		{"abcdbcdecdefdefgefghfghighijhijkijkljklmklmnlmnomnopnopq", "248d6a61d20638b8e5c026930c3e6039a33ce45964ff2167f6ecedd419db06c1"},
		{"abcdefghbcdefghicdefghijdefghijkefghijklfghijklmghijklmnhijklmnoijklmnopjklmnopqklmnopqrlmnopqrsmnopqrstnopqrstu", "cf5b16a778af8380036ce59e7b0492370b249b11e8f07a51afac45037afee9d1"},
	}
	for _, c := range cases {
		wantBytes(t, "HashOf "+strconv.Quote(c.data), impl.HashOf([]byte(c.data)), fromHex(t, c.want))
	}
	wantBytes(t, "HashOf nil", impl.HashOf(nil), fromHex(t, cases[0].want))
}

func TestHashOfEdgeSizes(t *testing.T) {
	cases := []struct {
		size int
		want string
	}{
		{55, "9f4390f8d30c2dd92ec9f095b65e2b9ae9b0a925a5258e241c9f1e910f734318"},
		{56, "b35439a4ac6f0948b6d6f9e3c6af0f5f590ce20f1bde7090ef7970686ec6738a"},
		{63, "7d3e74a05d7db15bce4ad9ec0658ea98e3f06eeecf16b4c6fff2da457ddc2f34"},
		{64, "ffe054fe7ae0cb6dc65c3af9b61d5209f439851db43d0ba5997337df154668eb"},
	}
	for _, c := range cases {
		data := []byte(strings.Repeat("a", c.size))
		wantBytes(t, "HashOf "+strconv.Itoa(c.size)+" times a", impl.HashOf(data), fromHex(t, c.want))
	}
}

func TestHashOfEverySize(t *testing.T) {
	for size := range impl.MaxBytes + 1 {
		for _, data := range someMessages(size) {
			got := impl.HashOf(data)
			if len(got.Bytes) != impl.HashSize {
				t.Errorf("HashOf %d bytes has %d bytes", size, len(got.Bytes))
			}
			wantBytes(t, "HashOf "+strconv.Itoa(size), got, trueHash(data))
		}
	}
}

func TestHashOfEachChangedBit(t *testing.T) {
	for _, size := range []int{55, 56, 63, 64, 65} {
		data := countedBytes(size, 8)
		for bit := range 8 * size {
			data[bit/8] ^= 1 << (bit % 8)
			wantBytes(t, "HashOf "+strconv.Itoa(size)+", bit "+strconv.Itoa(bit), impl.HashOf(data), trueHash(data))
			data[bit/8] ^= 1 << (bit % 8)
		}
	}
}

func TestHashMany(t *testing.T) {
	for _, size := range []int{impl.MaxBytes + 1, impl.MaxBytes + 2, 320, 64 * 64, 1 << 16} {
		for _, data := range someMessages(size) {
			wantBytesFault(t, "PadMessage of "+strconv.Itoa(size), impl.PadMessage(data), impl.ErrMany)
			wantBytesFault(t, "HashOf "+strconv.Itoa(size), impl.HashOf(data), impl.ErrMany)
			for _, key := range []int{0, 32, impl.BlockSize, impl.BlockSize + 1} {
				name := "MacOf a key of " + strconv.Itoa(key) + " and " + strconv.Itoa(size)
				wantBytesFault(t, name, impl.MacOf(countedBytes(key, 1), data), impl.ErrMany)
			}
		}
	}
}

// The cases 1 to 4 of RFC 4231, whose keys are not longer than a block, and one with an empty key.
func TestMacOfKnownMessages(t *testing.T) {
	counted := make([]byte, 25)
	for i := range counted {
		counted[i] = byte(i + 1)
	}
	cases := []struct {
		key, data []byte
		want      string
	}{
		{bytes.Repeat([]byte{0x0b}, 20), []byte("Hi There"), "b0344c61d8db38535ca8afceaf0bf12b881dc200c9833da726e9376c2e32cff7"},
		{[]byte("Jefe"), []byte("what do ya want for nothing?"), "5bdcc146bf60754e6a042426089575c75a003f089d2739839dec58b964ec3843"},
		{bytes.Repeat([]byte{0xaa}, 20), bytes.Repeat([]byte{0xdd}, 50), "773ea91e36800e46854db8ebd09181a72959098b3ef8c122d9635514ced565fe"},
		{counted, bytes.Repeat([]byte{0xcd}, 50), "82558a389a443c0ea4cc819899f2083a85f0faa3e578f8077a2e3ff46729665b"},
		{nil, nil, "b613679a0814d9ec772f95d778c35fc5ff1697c493715653c6c712144292c5ad"},
	}
	for _, c := range cases {
		wantBytes(t, "MacOf "+strconv.Quote(string(c.data)), impl.MacOf(c.key, c.data), fromHex(t, c.want))
	}
}

// With 237 bytes and more, the inner hash is of more than MaxBytes.
func TestMacOfManySizes(t *testing.T) {
	for _, keySize := range []int{0, 1, 2, 16, 31, 32, 33, 55, 56, 63, 64} {
		for _, size := range []int{0, 1, 5, 54, 55, 56, 63, 64, 65, 119, 120, 128, 236, 237, impl.MaxBytes - 1, impl.MaxBytes} {
			keys := someMessages(keySize)
			for i, data := range someMessages(size) {
				// A key of another pattern than its data, so that one taken for the other is seen.
				key := keys[(i+2)%len(keys)]
				got := impl.MacOf(key, data)
				if len(got.Bytes) != impl.HashSize {
					t.Errorf("MacOf a key of %d and %d bytes has %d bytes", keySize, size, len(got.Bytes))
				}
				wantBytes(t, "MacOf a key of "+strconv.Itoa(keySize)+" and "+strconv.Itoa(size), got, trueMac(key, data))
			}
		}
	}
}

func TestMacOfManyKeyBytes(t *testing.T) {
	for _, keySize := range []int{65, 66, 96, 128, impl.MaxBytes, impl.MaxBytes + 1, 1 << 16} {
		for _, size := range []int{0, 1, 64, impl.MaxBytes} {
			name := "MacOf a key of " + strconv.Itoa(keySize) + " and " + strconv.Itoa(size)
			wantBytesFault(t, name, impl.MacOf(make([]byte, keySize), countedBytes(size, 2)), impl.ErrMany)
			wantBytesFault(t, name, impl.MacOf(countedBytes(keySize, 7), countedBytes(size, 2)), impl.ErrMany)
		}
	}
	key := make([]byte, impl.BlockSize)
	wantBytes(t, "MacOf a key of 64 zeros", impl.MacOf(key, []byte{1}), impl.MacOf(nil, []byte{1}).Bytes)
}

func TestEmptyListAndNilHashAlike(t *testing.T) {
	none := []byte{}
	wantBytes(t, "HashOf an empty list", impl.HashOf(none), impl.HashOf(nil).Bytes)
	wantBytes(t, "MacOf a key and an empty list", impl.MacOf([]byte{1}, none), impl.MacOf([]byte{1}, nil).Bytes)
	wantBytes(t, "MacOf an empty key", impl.MacOf(none, []byte{1}), impl.MacOf(nil, []byte{1}).Bytes)
	wantBytes(t, "MacOf two empty lists", impl.MacOf(none, none), impl.MacOf(nil, nil).Bytes)
}

func TestHashArgumentsStay(t *testing.T) {
	for _, size := range []int{0, 1, 55, 56, 63, 64, 65, impl.MaxBytes, impl.MaxBytes + 1} {
		for _, keySize := range []int{0, 1, 32, 64, 65} {
			name := "a key of " + strconv.Itoa(keySize) + " and " + strconv.Itoa(size)
			key, data := newGuard(countedBytes(keySize, 5)), newGuard(countedBytes(size, 90))
			overwrite(impl.PadMessage(data.list()).Bytes)
			overwrite(impl.HashOf(data.list()).Bytes)
			overwrite(impl.MacOf(key.list(), data.list()).Bytes)
			overwrite(impl.MacOf(key.list(), key.list()).Bytes)
			key.mustBeSame(t, name)
			data.mustBeSame(t, name)
		}
	}
}

func TestHashAnswersAreNew(t *testing.T) {
	key, data := countedBytes(32, 1), countedBytes(64, 2)
	pad, hash, mac := padded(data), trueHash(data), trueMac(key, data)
	gotPad, gotHash, gotMac := impl.PadMessage(data), impl.HashOf(data), impl.MacOf(key, data)
	overwrite(impl.PadMessage(data).Bytes)
	overwrite(impl.HashOf(data).Bytes)
	overwrite(impl.MacOf(key, data).Bytes)
	overwrite(key)
	overwrite(data)
	wantBytes(t, "PadMessage behind a change of all else", gotPad, pad)
	wantBytes(t, "HashOf behind a change of all else", gotHash, hash)
	wantBytes(t, "MacOf behind a change of all else", gotMac, mac)
}

func TestHashAnswersHangOnArgumentsAlone(t *testing.T) {
	long, over := countedBytes(impl.MaxBytes, 6), countedBytes(impl.MaxBytes+1, 6)
	for range 3 {
		wantBytes(t, "HashOf", impl.HashOf([]byte("abc")), trueHash([]byte("abc")))
		wantBytes(t, "PadMessage", impl.PadMessage(long), padded(long))
		wantBytesFault(t, "PadMessage", impl.PadMessage(over), impl.ErrMany)
		wantBytes(t, "MacOf", impl.MacOf(long[:64], long), trueMac(long[:64], long))
		wantBytesFault(t, "MacOf", impl.MacOf(long[:65], nil), impl.ErrMany)
		wantBytesFault(t, "HashOf", impl.HashOf(over), impl.ErrMany)
		wantBytes(t, "HashOf", impl.HashOf(nil), trueHash(nil))
	}
}

// A state that was kept from call to call would be shared by calls at one time.
func TestHashAnswersAtOneTime(t *testing.T) {
	var group sync.WaitGroup
	for seed := range 8 {
		group.Go(func() {
			for size := range impl.MaxBytes + 1 {
				data := countedBytes(size, byte(seed))
				key := data[:min(size, impl.BlockSize)]
				wantBytes(t, "HashOf beside other calls", impl.HashOf(data), trueHash(data))
				wantBytes(t, "MacOf beside other calls", impl.MacOf(key, data), trueMac(key, data))
			}
		})
	}
	group.Wait()
}
