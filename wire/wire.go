// Package wire reads and writes the bytes of packets, within bounds. It is layer 1: see shared/doc/01-wire.md.
package wire

import "baffle/api"

// MaxBytes is the greatest number of bytes.
const MaxBytes = 1 << 17

// ErrText: a string that is no text of bytes.
const ErrText api.Errno = 10

// numberOf puts a number together, its most significant byte first; without bytes it is 0.
func numberOf[N uint8 | uint16 | uint32](b []byte) N {
	var n N
	for i, x := range b {
		n |= N(x) << (8 * (len(b) - 1 - i))
	}
	return n
}

// bytesOf takes a number apart into size bytes, the most significant one first.
func bytesOf[N uint8 | uint16 | uint32](n N, size int) []byte {
	b := make([]byte, size)
	for i := range b {
		b[i] = byte(n >> (8 * (size - 1 - i)))
	}
	return b
}
