// Package digits is layer 1: it writes numbers and texts as bytes (see shared/doc/01-digits.md).
package digits

import (
	"math/bits"

	"muslin/api"
)

const (
	maxText = 65535             // bytes of a text that is written
	maxCode = 2 * api.MaxNumber // the greatest number that stands for one that may be below 0
	maxSize = 8                 // bytes of a number
	perByte = 7                 // bits of a number for which each of its bytes has room
	allOnes = ^byte(0)
)

// U tells a number from 0 on as bytes.
func U(n int) ([]byte, api.Errno) {
	if n < 0 || n > api.MaxNumber {
		return nil, api.ErrRange
	}
	return write(n), api.OK
}

// S tells any number as bytes.
func S(n int) ([]byte, api.Errno) {
	if n < -api.MaxNumber || n > api.MaxNumber {
		return nil, api.ErrRange
	}
	return write(fold(n)), api.OK
}

// Text tells a text as bytes, with how many it has ahead.
func Text(s string) ([]byte, api.Errno) {
	if len(s) > maxText {
		return nil, api.ErrLimit
	}
	return append(write(len(s)), s...), api.OK
}

// fold tells numbers on both sides of 0 as numbers from 0 on, so that those near 0 stay short.
func fold(n int) int {
	if n < 0 {
		return -2*n - 1
	}
	return 2 * n
}

// unfold is the way back from fold.
func unfold(n int) int {
	if n%2 == 1 {
		return -(n + 1) / 2
	}
	return n / 2
}

// sizeOf tells in how few bytes a number from 0 on can be written.
func sizeOf(n int) int {
	size := 1
widen:
	for {
		switch bits.Len(uint(n) >> (perByte * size)) {
		case 0:
			break widen
		default:
			size++
		}
	}
	return size
}

// sizeTold tells how many bytes a number has that begins with this one; one above maxSize, if none does.
func sizeTold(first byte) int {
	return bits.LeadingZeros8(^first) + 1
}

// write tells a number from 0 to maxCode as bytes.
func write(n int) []byte {
	size := sizeOf(n)
	out := make([]byte, size)
	for i := range size {
		out[i] = byte(n >> (8 * (size - 1 - i)))
	}
	out[0] |= allOnes << (maxSize + 1 - size)
	return out
}
