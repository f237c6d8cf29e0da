// Package leb is layer 1: numbers as bytes. See shared/doc/01-leb.md.
package leb

import "warrantor/api"

// last is the place of the tenth byte, which has room for one bit only.
const last = 9

// Put tells the bytes of n.
func Put(n uint64) []byte {
	b := make([]byte, 0, Size(n))
	for n >= 128 {
		b = append(b, byte(n)|128)
		n >>= 7
	}
	return append(b, byte(n))
}

// Get tells the number with whose bytes b begins, and how many these are.
func Get(b []byte) (uint64, int, api.Errno) {
	var n uint64
	for i, c := range b {
		if wrong(i, c) {
			return 0, 0, api.ErrLeb
		}
		n |= uint64(c&127) << (7 * uint(i))
		if c < 128 {
			return n, i + 1, api.OK
		}
	}
	return 0, 0, api.ErrShort
}

// wrong tells whether c can not be a number's byte at the place i: it would be one bit too many, or one byte.
func wrong(i int, c byte) bool {
	return i == last && c > 1 || i > 0 && c == 0
}

// Size tells how many bytes n has.
func Size(n uint64) int {
	size := 1
	for n >= 128 {
		n >>= 7
		size++
	}
	return size
}

// Zig tells the turned number of n: small ones stay small, whatever their sign is.
func Zig(n int64) uint64 {
	twice := uint64(n) << 1
	if n < 0 {
		return ^twice
	}
	return twice
}

// Zag tells of which number n is the turned one.
func Zag(n uint64) int64 {
	half := n >> 1
	if n&1 == 1 {
		return int64(^half)
	}
	return int64(half)
}

// PutInt tells the bytes of a signed number.
func PutInt(n int64) []byte { return Put(Zig(n)) }

// GetInt tells the signed number with whose bytes b begins, and how many these are.
func GetInt(b []byte) (int64, int, api.Errno) {
	n, size, e := Get(b)
	return Zag(n), size, e
}
