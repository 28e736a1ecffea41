package wire

import (
	"math"
	"slices"
	"testing"

	"baffle/api"
)

func writer(t *testing.T, limit int) *Writer {
	t.Helper()
	w, e := NewWriter(limit)
	if w == nil || e != api.OK {
		t.Fatalf("NewWriter(%d): %v, %d", limit, w, e)
	}
	return w
}

// wrote checks the bytes of a writer that has not failed.
func wrote(t *testing.T, w *Writer, want ...byte) {
	t.Helper()
	b, e := w.Done()
	if !slices.Equal(b, want) || e != api.OK || w.Len() != len(want) || w.Failed() {
		t.Errorf("Done: %v, %d; Len %d, Failed %v; want %v", b, e, w.Len(), w.Failed(), want)
	}
}

// full checks a writer that has failed with n bytes.
func full(t *testing.T, name string, w *Writer, n int) {
	t.Helper()
	b, e := w.Done()
	if len(b) != 0 || e != api.ErrFull || w.Len() != n || !w.Failed() {
		t.Errorf("%s: Done: %v, %d; Len %d, Failed %v; want ErrFull and %d", name, b, e, w.Len(), w.Failed(), n)
	}
}

// P1.2: numbers are written with their most significant byte first, one thing after the other.
func TestWriterWrites(t *testing.T) {
	w := writer(t, 100)
	wrote(t, w)
	w.U8(0x81)
	wrote(t, w, 0x81)
	w.U16(0x8203)
	wrote(t, w, 0x81, 0x82, 0x03)
	w.U32(0xf40586ff)
	wrote(t, w, 0x81, 0x82, 0x03, 0xf4, 0x05, 0x86, 0xff)
	w.Bytes([]byte{8, 9})
	w.Bytes(nil)
	w.Zeros(0)
	wrote(t, w, 0x81, 0x82, 0x03, 0xf4, 0x05, 0x86, 0xff, 8, 9)
	w.Zeros(3)
	wrote(t, w, 0x81, 0x82, 0x03, 0xf4, 0x05, 0x86, 0xff, 8, 9, 0, 0, 0)
}

// P1.2: Set16 replaces two bytes that are there, and none beside them.
func TestWriterSets(t *testing.T) {
	for at, want := range [][]byte{{0xab, 0xcd, 3, 4}, {1, 0xab, 0xcd, 4}, {1, 2, 0xab, 0xcd}} {
		w := writer(t, 4)
		w.Bytes([]byte{1, 2, 3, 4})
		w.Set16(at, 0xabcd)
		wrote(t, w, want...)
	}
	for _, at := range []int{-1, -2, 3, 4, 5, math.MaxInt, math.MinInt} {
		w := writer(t, 10)
		w.Bytes([]byte{1, 2, 3, 4})
		w.Set16(at, 0xabcd)
		full(t, "Set16", w, 4)
	}
	for n := range 2 {
		w := writer(t, 10)
		w.Zeros(n)
		w.Set16(0, 1)
		full(t, "Set16 of fewer than two bytes", w, n)
	}
}

// P1.2: what has no room is not written, not in part either; then the writer has failed.
func TestWriterFails(t *testing.T) {
	writes := map[string]func(w *Writer){
		"U16":         func(w *Writer) { w.U16(1) },
		"U32":         func(w *Writer) { w.U32(1) },
		"Bytes":       func(w *Writer) { w.Bytes([]byte{1, 2}) },
		"Zeros":       func(w *Writer) { w.Zeros(2) },
		"Zeros most":  func(w *Writer) { w.Zeros(math.MaxInt) },
		"Zeros -1":    func(w *Writer) { w.Zeros(-1) },
		"Zeros least": func(w *Writer) { w.Zeros(math.MinInt) },
	}
	for name, write := range writes {
		w := writer(t, 4)
		w.Zeros(3)
		write(w)
		full(t, name, w, 3)
	}
	for n, write := range map[int]func(w *Writer){
		1: func(w *Writer) { w.U8(1) },
		2: func(w *Writer) { w.U16(1) },
		3: func(w *Writer) { w.Bytes([]byte{1, 1, 1}) },
		4: func(w *Writer) { w.U32(1) },
		5: func(w *Writer) { w.Zeros(5) },
	} {
		exact := writer(t, n)
		write(exact)
		if exact.Failed() || exact.Len() != n {
			t.Error(n, "bytes are not written")
		}
		less := writer(t, n-1)
		write(less)
		full(t, "one byte less", less, 0)
	}
}

// P1.2: a limit is from 0 to MaxBytes.
func TestWriterLimit(t *testing.T) {
	for _, limit := range []int{-1, MaxBytes + 1, math.MinInt, math.MaxInt} {
		if w, e := NewWriter(limit); w != nil || e != api.ErrArg {
			t.Error(limit, w, e)
		}
	}
	none := writer(t, 0)
	none.Zeros(0)
	none.Bytes(nil)
	wrote(t, none)
	none.U8(1)
	full(t, "limit 0", none, 0)
	most := writer(t, MaxBytes)
	most.Bytes(make([]byte, MaxBytes))
	if most.Failed() || most.Len() != MaxBytes {
		t.Error(most.Failed(), most.Len())
	}
	most.U8(1)
	full(t, "limit MaxBytes", most, MaxBytes)
}

// P1.3: Done may be asked again and between writes, and shares no memory.
func TestWriterDone(t *testing.T) {
	w := writer(t, 8)
	given := []byte{1, 2, 3}
	w.Bytes(given)
	clear(given)
	first, _ := w.Done()
	second, _ := w.Done()
	clear(first)
	_ = append(first, 99)
	if !slices.Equal(second, []byte{1, 2, 3}) {
		t.Error("two results share memory:", second)
	}
	w.U8(4)
	wrote(t, w, 1, 2, 3, 4)
	if !slices.Equal(second, []byte{1, 2, 3}) {
		t.Error("a result is written on:", second)
	}
	w.Set16(0, 0)
	if !slices.Equal(second, []byte{1, 2, 3}) {
		t.Error("a result is replaced:", second)
	}
}

// P1.2: the argument of Bytes is not modified, nor is its spare capacity.
func TestWriterArgument(t *testing.T) {
	room := []byte{1, 2, 3, 4}
	w := writer(t, 8)
	w.Bytes(room[:2])
	w.U16(0xffff)
	w.Set16(0, 0xffff)
	if !slices.Equal(room, []byte{1, 2, 3, 4}) {
		t.Error(room)
	}
}

// R8 and P1.3: what NewWriter did not return is no writer.
func TestNoWriter(t *testing.T) {
	w := writer(t, 8)
	w.U16(0x0102)
	copied, failed := *w, *w
	failed.failed = true
	for name, no := range map[string]*Writer{"nil": nil, "zero": {}, "copied": &copied, "failed": &failed} {
		no.U8(9)
		no.U16(9)
		no.U32(9)
		no.Bytes([]byte{9})
		no.Zeros(1)
		no.Zeros(-1)
		no.Set16(0, 0x0909)
		no.Set16(-1, 9)
		if b, e := no.Done(); len(b) != 0 || e != api.ErrNil || no.Len() != 0 || !no.Failed() {
			t.Error(name, b, e, no.Len(), no.Failed())
		}
	}
	wrote(t, w, 1, 2)
}

// P1.5: a writer that has failed never writes again, not even what has room.
func TestWriterStaysFailed(t *testing.T) {
	w := writer(t, 4)
	w.U8(7)
	w.U32(1)
	for range 3 {
		w.U8(1)
		w.U16(1)
		w.Bytes([]byte{1})
		w.Bytes(nil)
		w.Zeros(0)
		w.Zeros(1)
		w.Set16(0, 1)
		full(t, "failed", w, 1)
	}
	set := writer(t, 4)
	set.U16(1)
	set.Set16(1, 5)
	set.Set16(0, 5)
	set.U8(1)
	full(t, "failed by Set16", set, 2)
}

// P1.5: what is written is read back, number by number and byte by byte; then nothing is left.
func TestWrittenIsRead(t *testing.T) {
	numbers := []uint32{0, 1, 127, 128, 255, 256, 0x0102, 0x7fff, 0x8000, 0xffff, 0x10000, 0x01020304, 0x7fffffff, 0x80000000, 0xfffefdfc, 0xffffffff}
	w := writer(t, 1000)
	for _, n := range numbers {
		w.U8(uint8(n))
		w.U16(uint16(n))
		w.U32(n)
		w.Bytes([]byte{byte(n), 5})
		w.Zeros(2)
	}
	w.Set16(1, 0xbeef)
	b, e := w.Done()
	if e != api.OK || len(b) != 11*len(numbers) {
		t.Fatal(len(b), e)
	}
	r := reader(t, b...)
	for i, n := range numbers {
		word := uint16(n)
		if i == 0 {
			word = 0xbeef
		}
		a, c, d := r.U8(), r.U16(), r.U32()
		if a != uint8(n) || c != word || d != n {
			t.Errorf("%x: %x, %x, %x", n, a, c, d)
		}
		if l := r.Bytes(4); !slices.Equal(l, []byte{byte(n), 5, 0, 0}) {
			t.Errorf("%x: %v", n, l)
		}
	}
	stands(t, r, len(b), 0, false)
}

// The chapter's example of a writer.
func TestWriterExample(t *testing.T) {
	w := writer(t, 5)
	w.U8(7)
	w.U16(258)
	w.Zeros(1)
	wrote(t, w, 7, 1, 2, 0)
	w.Set16(2, 65535)
	wrote(t, w, 7, 1, 255, 255)
	w.U16(1)
	full(t, "example", w, 4)
}
