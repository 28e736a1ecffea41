package wire

import (
	"slices"

	"baffle/api"
)

// Writer writes bytes.
type Writer struct {
	self   *Writer // a copy is no writer: it does not point to itself
	b      []byte
	limit  int
	failed bool
}

// NewWriter returns a writer without bytes that takes up to limit of them.
func NewWriter(limit int) (*Writer, api.Errno) {
	if limit < 0 || limit > MaxBytes {
		return nil, api.ErrArg
	}
	w := &Writer{limit: limit}
	w.self = w
	return w, api.OK
}

func (w *Writer) made() bool { return w != nil && w.self == w }

// room reports whether n bytes may be written now; if not, the writer has failed.
func (w *Writer) room(n int) bool {
	if !w.made() {
		return false
	}
	if n < 0 || n > w.limit-len(w.b) {
		w.failed = true
	}
	return !w.failed
}

// U8 writes a number of 1 byte.
func (w *Writer) U8(v uint8) { w.Bytes(bytesOf(v, 1)) }

// U16 writes a number of 2 bytes.
func (w *Writer) U16(v uint16) { w.Bytes(bytesOf(v, 2)) }

// U32 writes a number of 4 bytes.
func (w *Writer) U32(v uint32) { w.Bytes(bytesOf(v, 4)) }

// Bytes writes the bytes of b.
func (w *Writer) Bytes(b []byte) {
	if w.room(len(b)) {
		w.b = append(w.b, b...)
	}
}

// Zeros writes n bytes 0.
func (w *Writer) Zeros(n int) {
	if w.room(n) { // asked before the bytes are made, for n may be any number
		w.b = append(w.b, make([]byte, n)...)
	}
}

// Set16 replaces the two bytes from the index at on.
func (w *Writer) Set16(at int, v uint16) {
	if !w.made() {
		return
	}
	if at < 0 || at > len(w.b)-2 {
		w.failed = true
	}
	if !w.failed {
		copy(w.b[at:], bytesOf(v, 2))
	}
}

// Len returns how many bytes the writer has.
func (w *Writer) Len() int {
	if !w.made() {
		return 0
	}
	return len(w.b)
}

// Failed reports whether the writer has failed; what is no writer has.
func (w *Writer) Failed() bool { return !w.made() || w.failed }

// Done returns the bytes of a writer that has not failed.
func (w *Writer) Done() ([]byte, api.Errno) {
	if !w.made() {
		return nil, api.ErrNil
	}
	if w.failed {
		return nil, api.ErrFull
	}
	return slices.Clone(w.b), api.OK
}
