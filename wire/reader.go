package wire

import (
	"slices"

	"baffle/api"
)

// Reader reads bytes.
type Reader struct {
	self   *Reader // a copy is no reader: it does not point to itself
	b      []byte
	at     int
	failed bool
}

// NewReader returns a reader of the bytes of b, at the position 0.
func NewReader(b []byte) (*Reader, api.Errno) {
	if len(b) > MaxBytes {
		return nil, api.ErrLong
	}
	r := &Reader{b: slices.Clone(b)}
	r.self = r
	return r, api.OK
}

func (r *Reader) made() bool { return r != nil && r.self == r }

// take reads n bytes. They are the reader's own, so nobody outside may get them.
func (r *Reader) take(n int) []byte {
	if !r.made() {
		return nil
	}
	if r.failed || n < 0 || n > len(r.b)-r.at {
		r.failed = true
		return nil
	}
	r.at += n
	return r.b[r.at-n : r.at]
}

// U8 reads a number of 1 byte.
func (r *Reader) U8() uint8 { return numberOf[uint8](r.take(1)) }

// U16 reads a number of 2 bytes.
func (r *Reader) U16() uint16 { return numberOf[uint16](r.take(2)) }

// U32 reads a number of 4 bytes.
func (r *Reader) U32() uint32 { return numberOf[uint32](r.take(4)) }

// Bytes reads n bytes.
func (r *Reader) Bytes(n int) []byte { return slices.Clone(r.take(n)) }

// Skip reads n bytes and returns nothing.
func (r *Reader) Skip(n int) { r.take(n) }

// Left returns how many bytes follow the position.
func (r *Reader) Left() int {
	if !r.made() {
		return 0
	}
	return len(r.b) - r.at
}

// At returns the position.
func (r *Reader) At() int {
	if !r.made() {
		return 0
	}
	return r.at
}

// Failed reports whether the reader has failed; what is no reader has.
func (r *Reader) Failed() bool { return !r.made() || r.failed }
