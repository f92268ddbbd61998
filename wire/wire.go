// Package wire reads and writes the bytes of packets, within bounds. It is layer 1: see shared/doc/01-wire.md.
package wire

import "baffle/api"

// What there can be.
const (
	MaxBytes = 1 << 17

	ErrText api.Errno = 10 // a string that is no text of bytes
)

// number is what is read and written as one.
type number interface{ uint8 | uint16 | uint32 }

// join puts a number together from its bytes, the most significant one first.
func join[T number](b []byte) T {
	// A sum of 32 bits, since a shift by 8 would be too far for a T of one byte.
	var sum uint32
	for _, c := range b {
		sum = sum<<8 | uint32(c)
	}
	return T(sum)
}

// split returns the bytes of a number, the most significant one first.
func split[T number](v T, size int) []byte {
	b := make([]byte, size)
	rest := uint32(v)
	for i := size - 1; i >= 0; i-- {
		b[i] = byte(rest)
		rest >>= 8
	}
	return b
}
