// Package bits is layer 1: numbers as bytes, and back: see shared/doc/01-bits.md.
package bits

import (
	"slices"

	"gimbal/api"
)

const (
	word  = 64   // bits of the longest number
	group = 7    // bits of a number in a byte of a varint
	more  = 0x80 // tells that another byte of a varint follows
	long  = 10   // bytes of the longest varint
)

func isSize(size int) bool {
	return size == 8 || size == 16 || size == 32 || size == word
}

// Put returns b followed by n in size bits, most significant byte first.
func Put(b []byte, size int, n uint64) ([]byte, api.Errno) {
	if !isSize(size) {
		return nil, api.ErrArg
	}
	if n>>uint(size) != 0 {
		return nil, api.ErrRange
	}
	count := size / 8
	number := make([]byte, count)
	for i := range count {
		number[count-1-i] = byte(n >> uint(8*i))
	}
	return slices.Concat(b, number), api.OK
}

// Zig maps numbers that are close to 0, of either sign, to small ones.
func Zig(n int) uint64 {
	return uint64(n)<<1 ^ uint64(n>>(word-1))
}

// Zag is the inverse of Zig.
func Zag(u uint64) int {
	return int(u>>1) ^ -int(u&1)
}

// Varint returns b followed by u in groups of seven bits, the least significant one first.
func Varint(b []byte, u uint64) []byte {
	number := make([]byte, 0, long)
	for u >= more {
		number = append(number, byte(u)|more)
		u >>= group
	}
	return slices.Concat(b, append(number, byte(u)))
}

// Int returns b followed by the varint of the zigzag of n.
func Int(b []byte, n int) []byte {
	return Varint(b, Zig(n))
}

// Text returns b followed by the string s: the number of its bytes, and these.
func Text(b []byte, s []byte) []byte {
	return slices.Concat(Varint(b, uint64(len(s))), s)
}

// Rotate returns n with its bits rotated left by k positions, right if k is negative.
func Rotate(n uint64, k int) uint64 {
	left := uint(k) % word
	return n<<left | n>>(word-left)
}

// Reverse returns the lowest k bits of n in reverse order.
func Reverse(n uint64, k int) uint64 {
	turned := uint64(0)
	for range min(max(k, 0), word) {
		turned = turned<<1 | n&1
		n >>= 1
	}
	return turned
}
