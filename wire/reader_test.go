package wire

import (
	"math"
	"slices"
	"testing"

	"baffle/api"
)

func reader(t *testing.T, b ...byte) *Reader {
	t.Helper()
	r, e := NewReader(b)
	if r == nil || e != api.OK {
		t.Fatalf("NewReader of %d bytes: %v, %d", len(b), r, e)
	}
	return r
}

// stands checks where a reader is.
func stands(t *testing.T, r *Reader, at, left int, failed bool) {
	t.Helper()
	if r.At() != at || r.Left() != left || r.Failed() != failed {
		t.Errorf("at %d, left %d, failed %v; want %d, %d, %v", r.At(), r.Left(), r.Failed(), at, left, failed)
	}
}

// P1.1: numbers have their most significant byte first, and each read moves the position by its bytes.
func TestReaderReads(t *testing.T) {
	r := reader(t, 0x81, 0x82, 0x03, 0xf4, 0x05, 0x86, 0xff, 8, 9, 10, 11)
	stands(t, r, 0, 11, false)
	if v := r.U8(); v != 0x81 {
		t.Errorf("U8: %x", v)
	}
	stands(t, r, 1, 10, false)
	if v := r.U16(); v != 0x8203 {
		t.Errorf("U16: %x", v)
	}
	stands(t, r, 3, 8, false)
	if v := r.U32(); v != 0xf40586ff {
		t.Errorf("U32: %x", v)
	}
	stands(t, r, 7, 4, false)
	r.Skip(1)
	stands(t, r, 8, 3, false)
	if b := r.Bytes(3); !slices.Equal(b, []byte{9, 10, 11}) {
		t.Error("Bytes:", b)
	}
	stands(t, r, 11, 0, false)
}

// P1.1: to read no bytes is right everywhere, at the end too.
func TestReaderReadsNothing(t *testing.T) {
	for _, all := range [][]byte{nil, {}, {5}} {
		r := reader(t, all...)
		r.Skip(len(all))
		r.Skip(0)
		if b := r.Bytes(0); len(b) != 0 {
			t.Error("Bytes(0):", b)
		}
		stands(t, r, len(all), 0, false)
	}
}

// P1.1: a read that has too few bytes, or a number of bytes less than 0, fails, reads zero and does not move.
func TestReaderFails(t *testing.T) {
	reads := map[string]func(r *Reader) bool{
		"U16":         func(r *Reader) bool { return r.U16() == 0 },
		"U32":         func(r *Reader) bool { return r.U32() == 0 },
		"Bytes 2":     func(r *Reader) bool { return len(r.Bytes(2)) == 0 },
		"Bytes -1":    func(r *Reader) bool { return len(r.Bytes(-1)) == 0 },
		"Bytes most":  func(r *Reader) bool { return len(r.Bytes(math.MaxInt)) == 0 },
		"Bytes least": func(r *Reader) bool { return len(r.Bytes(math.MinInt)) == 0 },
		"Skip 2":      func(r *Reader) bool { r.Skip(2); return true },
		"Skip -1":     func(r *Reader) bool { r.Skip(-1); return true },
		"Skip most":   func(r *Reader) bool { r.Skip(math.MaxInt); return true },
		"Skip least":  func(r *Reader) bool { r.Skip(math.MinInt); return true },
	}
	for name, read := range reads {
		r := reader(t, 1, 2, 3, 4)
		r.Skip(3)
		if !read(r) {
			t.Error(name, "read something")
		}
		if r.At() != 3 || r.Left() != 1 || !r.Failed() {
			t.Error(name, r.At(), r.Left(), r.Failed())
		}
	}
	for n, read := range map[int]func(r *Reader) uint32{
		1: func(r *Reader) uint32 { return uint32(r.U8()) },
		2: func(r *Reader) uint32 { return uint32(r.U16()) },
		4: (*Reader).U32,
	} {
		exact := reader(t, slices.Repeat([]byte{1}, n)...)
		if read(exact) == 0 {
			t.Error(n, "bytes are not read")
		}
		stands(t, exact, n, 0, false)
		less := reader(t, slices.Repeat([]byte{1}, n-1)...)
		if v := read(less); v != 0 {
			t.Error(n, "bytes are read of one less:", v)
		}
		stands(t, less, 0, n-1, true)
	}
}

// P1.1: NewReader takes up to MaxBytes bytes.
func TestReaderLimit(t *testing.T) {
	b := make([]byte, MaxBytes+1)
	if r, e := NewReader(b); r != nil || e != api.ErrLong {
		t.Error(r, e)
	}
	r := reader(t, b[1:]...)
	stands(t, r, 0, MaxBytes, false)
	if len(r.Bytes(MaxBytes)) != MaxBytes {
		t.Error("not all bytes are read")
	}
	stands(t, r, MaxBytes, 0, false)
}

// P1.1: a reader shares no memory with its argument, nor with what it returns.
func TestReaderShares(t *testing.T) {
	all := []byte{1, 2, 3, 4, 5, 6}
	given := slices.Clone(all)
	r := reader(t, given...)
	r2, _ := NewReader(given)
	got := r2.Bytes(2)
	got[0] = 99
	if !slices.Equal(given, all) {
		t.Error("the argument is modified:", given)
	}
	_ = append(got, 99, 99)
	clear(given)
	if next := r2.Bytes(4); !slices.Equal(next, all[2:]) {
		t.Error("memory is shared:", next)
	}
	stands(t, r, 0, 6, false)
}

// R8 and P1.1: what NewReader did not return is no reader.
func TestNoReader(t *testing.T) {
	r := reader(t, 1, 2, 3, 4, 5)
	r.U8()
	copied, failed := *r, *r
	failed.failed = true
	for name, no := range map[string]*Reader{"nil": nil, "zero": {}, "copied": &copied, "failed": &failed} {
		if no.U8() != 0 || no.U16() != 0 || no.U32() != 0 || len(no.Bytes(0)) != 0 || len(no.Bytes(1)) != 0 {
			t.Error(name, "reads")
		}
		no.Skip(1)
		no.Skip(-1)
		if no.At() != 0 || no.Left() != 0 || !no.Failed() {
			t.Error(name, no.At(), no.Left(), no.Failed())
		}
	}
	stands(t, r, 1, 4, false)
	if v := r.U8(); v != 2 {
		t.Error("a copy has moved its original:", v)
	}
}

// P1.5: a reader that has failed reads nothing again, never moves, and At and Left are all bytes.
func TestReaderStaysFailed(t *testing.T) {
	r := reader(t, 7, 8, 9)
	r.U8()
	r.U32()
	for range 3 {
		if r.U8() != 0 || r.U16() != 0 || r.U32() != 0 || len(r.Bytes(0)) != 0 || len(r.Bytes(1)) != 0 {
			t.Error("it reads again")
		}
		r.Skip(0)
		r.Skip(1)
		stands(t, r, 1, 2, true)
	}
}

// P1.5: At and Left are together always the number of all bytes.
func TestReaderCounts(t *testing.T) {
	for n := range 40 {
		r := reader(t, make([]byte, n)...)
		for i, step := range []int{1, 0, 3, 2, 4, 7, -1, 1, 5, 30, 0} {
			before := r.At()
			r.Skip(step)
			if r.At()+r.Left() != n || r.At() < before || r.Failed() && r.At() > before {
				t.Error(n, i, r.At(), r.Left())
			}
		}
		if !r.Failed() {
			t.Error(n, "a step of -1 has not failed")
		}
	}
}

// The chapter's example of a reader.
func TestReaderExample(t *testing.T) {
	r := reader(t, 1, 2, 3, 4, 5)
	if v := r.U16(); v != 258 {
		t.Error(v)
	}
	stands(t, r, 2, 3, false)
	if v := r.U32(); v != 0 {
		t.Error(v)
	}
	stands(t, r, 2, 3, true)
	if v := r.U8(); v != 0 {
		t.Error(v)
	}
	stands(t, r, 2, 3, true)
}
