package impl

import "bytes"

const OK = 0
const ErrForm = 1
const ErrMany = 2
const ErrRange = 3
const ErrNone = 4
const ErrText = 5
const ErrSum = 6
const ErrFull = 7
const ErrState = 8
const ErrOld = 9
const MaxBytes = 300

// A number of 7 bytes is below 2 to the power of 56, so it always fits into an int64.
const maxNumberSize = 7

type IntResult struct {
	Code  int64
	Value int64
}
type BytesResult struct {
	Code  int64
	Bytes []byte
}

// bound is a value with the first and the last number that it may be.
type bound struct {
	value int64
	first int64
	last  int64
}

func outside(bounds ...bound) bool {
	for _, b := range bounds {
		if b.value < b.first || b.value > b.last {
			return true
		}
	}
	return false
}

// putWord is generic so that numbers, 32-bit words and 64-bit lengths all have one way to their bytes.
func putWord[N int64 | uint32 | uint64](n N, size int64) []byte {
	data := make([]byte, size)
	for i := range data {
		data[len(data)-1-i] = byte(n >> (8 * i))
	}
	return data
}

func PutNumber(n int64, size int64) BytesResult {
	// The size is asked first: only a size within its bounds may shift.
	if outside(bound{size, 1, maxNumberSize}) {
		return BytesResult{Code: ErrRange}
	}
	if outside(bound{n, 0, 1<<(8*size) - 1}) {
		return BytesResult{Code: ErrRange}
	}
	return BytesResult{Bytes: putWord(n, size)}
}

func GetNumber(data []byte) IntResult {
	if outside(bound{int64(len(data)), 1, maxNumberSize}) {
		return IntResult{Code: ErrMany}
	}
	var n int64
	for _, b := range data {
		n = n<<8 | int64(b)
	}
	return IntResult{Value: n}
}

func MixBytes(a []byte, b []byte) BytesResult {
	if len(a) > len(b) || len(a) > MaxBytes {
		return BytesResult{Code: ErrMany}
	}
	mixed := make([]byte, len(a))
	for i := range a {
		mixed[i] = a[i] ^ b[i]
	}
	return BytesResult{Bytes: mixed}
}

func SameBytes(a []byte, b []byte) bool {
	return bytes.Equal(a, b)
}
