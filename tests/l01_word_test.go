package tests

import (
	"bytes"
	"encoding/binary"
	"math"
	"strconv"
	"testing"

	"loop.example/g00799/impl"
)

func afterLast(size int64) int64 {
	return int64(1) << (8 * size)
}

// someNumbers are numbers that fit into so many bytes: the edges of each smaller size, too.
func someNumbers(size int64) []int64 {
	last := afterLast(size) - 1
	numbers := []int64{0, 1, 2, 127, 128, 254, 255, last - 1, last, last / 2, last / 3, 0x0123456789ABCD & last}
	for s := int64(1); s < size; s++ {
		numbers = append(numbers, afterLast(s)-1, afterLast(s), afterLast(s)+1)
	}
	return numbers
}

func wantBytes(t *testing.T, name string, got impl.BytesResult, want []byte) {
	t.Helper()
	if got.Code != impl.OK || !bytes.Equal(got.Bytes, want) {
		t.Errorf("%s: code %d, bytes %v; want code 0, bytes %v", name, got.Code, got.Bytes, want)
	}
}

func wantBytesFault(t *testing.T, name string, got impl.BytesResult, code int64) {
	t.Helper()
	if got.Code != code || len(got.Bytes) != 0 {
		t.Errorf("%s: code %d, bytes %v; want code %d, no bytes", name, got.Code, got.Bytes, code)
	}
}

func wantInt(t *testing.T, name string, got impl.IntResult, want impl.IntResult) {
	t.Helper()
	if got != want {
		t.Errorf("%s: %+v; want %+v", name, got, want)
	}
}

func TestCodesAndBounds(t *testing.T) {
	codes := []int64{impl.OK, impl.ErrForm, impl.ErrMany, impl.ErrRange, impl.ErrNone, impl.ErrText, impl.ErrSum, impl.ErrFull, impl.ErrState, impl.ErrOld}
	for want, code := range codes {
		if code != int64(want) {
			t.Errorf("code %d has the number %d", want, code)
		}
	}
	if impl.MaxBytes != 300 {
		t.Errorf("MaxBytes is %d", impl.MaxBytes)
	}
}

func TestPutNumberBytes(t *testing.T) {
	cases := []struct {
		n, size int64
		want    []byte
	}{
		{258, 3, []byte{0, 1, 2}},
		{0, 1, []byte{0}},
		{255, 1, []byte{255}},
		{256, 2, []byte{1, 0}},
		{0, 7, []byte{0, 0, 0, 0, 0, 0, 0}},
		{1, 7, []byte{0, 0, 0, 0, 0, 0, 1}},
		{0x01020304050607, 7, []byte{1, 2, 3, 4, 5, 6, 7}},
		{1<<56 - 1, 7, []byte{255, 255, 255, 255, 255, 255, 255}},
	}
	for _, c := range cases {
		wantBytes(t, "PutNumber "+strconv.FormatInt(c.n, 10)+" in "+strconv.FormatInt(c.size, 10), impl.PutNumber(c.n, c.size), c.want)
	}
}

func TestNumberIsReadBack(t *testing.T) {
	for size := int64(1); size <= 7; size++ {
		for _, n := range someNumbers(size) {
			if n >= afterLast(size) {
				continue
			}
			name := "number " + strconv.FormatInt(n, 10) + " in " + strconv.FormatInt(size, 10)
			var eight [8]byte
			binary.BigEndian.PutUint64(eight[:], uint64(n))
			put := impl.PutNumber(n, size)
			wantBytes(t, name, put, eight[8-size:])
			wantInt(t, name, impl.GetNumber(put.Bytes), impl.IntResult{Value: n})
		}
	}
}

func TestEveryShortNumberIsReadBack(t *testing.T) {
	for size := int64(1); size <= 2; size++ {
		for n := int64(0); n < afterLast(size); n++ {
			put := impl.PutNumber(n, size)
			if got := impl.GetNumber(put.Bytes); put.Code != impl.OK || int64(len(put.Bytes)) != size || got != (impl.IntResult{Value: n}) {
				t.Fatalf("number %d in %d: put %+v, read %+v", n, size, put, got)
			}
		}
	}
}

func TestPutNumberRange(t *testing.T) {
	for _, size := range []int64{0, 8, 9, 64, -1, -7, 1 << 32, math.MaxInt64, math.MinInt64} {
		for _, n := range []int64{0, 1, 255, -1, math.MaxInt64, math.MinInt64} {
			name := "PutNumber " + strconv.FormatInt(n, 10) + " in " + strconv.FormatInt(size, 10)
			wantBytesFault(t, name, impl.PutNumber(n, size), impl.ErrRange)
		}
	}
	for size := int64(1); size <= 7; size++ {
		if got := impl.PutNumber(afterLast(size)-1, size); got.Code != impl.OK {
			t.Errorf("the last number that fits into %d: code %d", size, got.Code)
		}
		for _, n := range []int64{-1, -255, -afterLast(size), afterLast(size), afterLast(size) + 1, math.MaxInt64, math.MinInt64} {
			name := "PutNumber " + strconv.FormatInt(n, 10) + " in " + strconv.FormatInt(size, 10)
			wantBytesFault(t, name, impl.PutNumber(n, size), impl.ErrRange)
		}
	}
}

func TestGetNumberValues(t *testing.T) {
	cases := []struct {
		data []byte
		want int64
	}{
		{[]byte{0}, 0},
		{[]byte{255}, 255},
		{[]byte{1, 0}, 256},
		{[]byte{0, 0, 9}, 9},
		{[]byte{128, 0, 0, 0}, 1 << 31},
		{[]byte{1, 2, 3, 4, 5, 6, 7}, 0x01020304050607},
		{[]byte{255, 255, 255, 255, 255, 255, 255}, 1<<56 - 1},
	}
	for _, c := range cases {
		got := impl.GetNumber(c.data)
		wantInt(t, "GetNumber", got, impl.IntResult{Value: c.want})
		wantBytes(t, "PutNumber of what was read", impl.PutNumber(got.Value, int64(len(c.data))), c.data)
	}
}

func TestGetNumberMany(t *testing.T) {
	fault := impl.IntResult{Code: impl.ErrMany}
	wantInt(t, "GetNumber of nil", impl.GetNumber(nil), fault)
	wantInt(t, "GetNumber of an empty list", impl.GetNumber([]byte{}), fault)
	for _, n := range []int{8, 9, 16, impl.MaxBytes, impl.MaxBytes + 1} {
		wantInt(t, "GetNumber of "+strconv.Itoa(n)+" bytes", impl.GetNumber(countedBytes(n, 1)), fault)
		wantInt(t, "GetNumber of "+strconv.Itoa(n)+" zeros", impl.GetNumber(make([]byte, n)), fault)
	}
}

func TestMixBytesValues(t *testing.T) {
	wantBytes(t, "MixBytes with more", impl.MixBytes([]byte{5, 3}, []byte{1, 3, 9}), []byte{4, 0})
	wantBytes(t, "MixBytes with as many", impl.MixBytes([]byte{255, 15, 0}, []byte{15, 255, 7}), []byte{240, 240, 7})
	for a := range 256 {
		for b := range 256 {
			got := impl.MixBytes([]byte{byte(a)}, []byte{byte(b)})
			if got.Code != impl.OK || len(got.Bytes) != 1 || got.Bytes[0] != byte(a^b) {
				t.Fatalf("MixBytes of %d and %d: %+v", a, b, got)
			}
		}
	}
}

func TestMixBytesOfNothing(t *testing.T) {
	for _, a := range [][]byte{nil, {}} {
		for _, b := range [][]byte{nil, {}, {7}, countedBytes(impl.MaxBytes, 3), countedBytes(impl.MaxBytes+1, 3)} {
			wantBytes(t, "MixBytes of nothing and "+strconv.Itoa(len(b)), impl.MixBytes(a, b), nil)
		}
	}
}

func TestMixBytesMany(t *testing.T) {
	most := impl.MaxBytes
	cases := []struct {
		a, b int
		code int64
	}{
		{1, 0, impl.ErrMany},
		{1, 1, impl.OK},
		{2, 1, impl.ErrMany},
		{8, 7, impl.ErrMany},
		{7, 8, impl.OK},
		{most - 1, most - 1, impl.OK},
		{most, most - 1, impl.ErrMany},
		{most, most, impl.OK},
		{most, most + 1, impl.OK},
		{most, 3 * most, impl.OK},
		{most + 1, most, impl.ErrMany},
		{most + 1, most + 1, impl.ErrMany},
		{most + 1, 3 * most, impl.ErrMany},
	}
	for _, c := range cases {
		name := "MixBytes of " + strconv.Itoa(c.a) + " and " + strconv.Itoa(c.b)
		got := impl.MixBytes(countedBytes(c.a, 9), countedBytes(c.b, 200))
		if c.code != impl.OK {
			wantBytesFault(t, name, got, c.code)
		} else if got.Code != impl.OK || len(got.Bytes) != c.a {
			t.Errorf("%s: code %d, %d bytes", name, got.Code, len(got.Bytes))
		}
	}
}

func TestMixedTwiceIsAsItWas(t *testing.T) {
	for _, size := range []int{0, 1, 2, 7, 8, 32, 120, impl.MaxBytes - 1, impl.MaxBytes} {
		for _, more := range []int{0, 1, 50} {
			a, b := countedBytes(size, 11), countedBytes(size+more, 77)
			once := impl.MixBytes(a, b)
			if size > 0 && bytes.Equal(once.Bytes, a) {
				t.Errorf("%d bytes are as they were after one mix", size)
			}
			wantBytes(t, "mixed twice, "+strconv.Itoa(size), impl.MixBytes(once.Bytes, b), a)
		}
	}
}

func TestSameBytes(t *testing.T) {
	long := countedBytes(impl.MaxBytes+50, 4)
	last := bytes.Clone(long)
	last[len(last)-1]++
	cases := []struct {
		name string
		a, b []byte
		want bool
	}{
		{"nil and nil", nil, nil, true},
		{"nil and empty", nil, []byte{}, true},
		{"empty and empty", []byte{}, []byte{}, true},
		{"nil and a zero", nil, []byte{0}, false},
		{"empty and a zero", []byte{}, []byte{0}, false},
		{"one", []byte{1}, []byte{1}, true},
		{"another one", []byte{1}, []byte{2}, false},
		{"other order", []byte{1, 2}, []byte{2, 1}, false},
		{"a zero more", []byte{1, 2}, []byte{1, 2, 0}, false},
		{"one ahead", []byte{1, 2}, []byte{0, 1, 2}, false},
		{"first differs", []byte{1, 2, 3}, []byte{9, 2, 3}, false},
		{"middle differs", []byte{1, 2, 3}, []byte{1, 9, 3}, false},
		{"last differs", []byte{1, 2, 3}, []byte{1, 2, 9}, false},
		{"long", long, bytes.Clone(long), true},
		{"long, last differs", long, last, false},
		{"long, one fewer", long, long[:len(long)-1], false},
	}
	for _, c := range cases {
		if impl.SameBytes(c.a, c.b) != c.want || impl.SameBytes(c.b, c.a) != c.want {
			t.Errorf("SameBytes of %s is not %v both ways", c.name, c.want)
		}
	}
}

func TestWordArgumentsStay(t *testing.T) {
	for _, size := range []int{0, 1, 7, 8, impl.MaxBytes, impl.MaxBytes + 1} {
		for _, more := range []int{-1, 0, 1} {
			name := strconv.Itoa(size) + " and " + strconv.Itoa(size+more)
			a, b := newGuard(countedBytes(size, 5)), newGuard(countedBytes(max(size+more, 0), 90))
			impl.GetNumber(a.list())
			impl.SameBytes(a.list(), b.list())
			impl.SameBytes(a.list(), a.list())
			overwrite(impl.MixBytes(a.list(), b.list()).Bytes)
			overwrite(impl.MixBytes(a.list(), a.list()).Bytes)
			a.mustBeSame(t, name)
			b.mustBeSame(t, name)
		}
	}
}

func TestWordAnswersAreNew(t *testing.T) {
	first := impl.PutNumber(258, 3)
	overwrite(first.Bytes)
	wantBytes(t, "PutNumber again", impl.PutNumber(258, 3), []byte{0, 1, 2})

	a, b := []byte{5, 3}, []byte{1, 3, 9}
	kept := impl.MixBytes(a, b)
	other := impl.MixBytes(a, b)
	overwrite(other.Bytes)
	overwrite(a)
	overwrite(b)
	wantBytes(t, "MixBytes behind a change of all else", kept, []byte{4, 0})

	same := []byte{6, 6}
	zeros := impl.MixBytes(same, same)
	overwrite(same)
	wantBytes(t, "MixBytes of a list with itself", zeros, []byte{0, 0})
}

func TestWordAnswersHangOnArgumentsAlone(t *testing.T) {
	long := countedBytes(impl.MaxBytes, 1)
	for range 3 {
		wantBytes(t, "PutNumber", impl.PutNumber(1, 2), []byte{0, 1})
		wantBytesFault(t, "PutNumber", impl.PutNumber(1<<56, 7), impl.ErrRange)
		wantInt(t, "GetNumber", impl.GetNumber([]byte{0, 1}), impl.IntResult{Value: 1})
		wantInt(t, "GetNumber", impl.GetNumber(long), impl.IntResult{Code: impl.ErrMany})
		wantBytes(t, "MixBytes", impl.MixBytes([]byte{1}, []byte{3}), []byte{2})
		wantBytes(t, "MixBytes", impl.MixBytes(long, long), make([]byte, len(long)))
		wantBytesFault(t, "MixBytes", impl.MixBytes(long, nil), impl.ErrMany)
		if !impl.SameBytes(long, long) || impl.SameBytes(long, nil) {
			t.Error("SameBytes answers otherwise than ahead of it")
		}
	}
}
