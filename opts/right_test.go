package opts

import (
	"bytes"
	"slices"
	"testing"
)

// special are the kinds whose Data is said something of; plain are others, some of them next to these.
var (
	special = []uint8{0, 1, 7, 68, 131, 137, 148}
	plain   = []uint8{2, 3, 6, 8, 67, 69, 128, 130, 132, 135, 136, 138, 147, 149, 196, 254, 255}
	routes  = []uint8{7, 131, 137}
)

// some returns n bytes that differ from those before and after them.
func some(n int) []byte {
	b := make([]byte, n)
	for i := range b {
		b[i] = byte(9 + 37*i)
	}
	return b
}

// data returns some bytes with others in front of them.
func data(n int, front ...byte) []byte { return append(front, some(n)...) }

// rightBy says what the chapter's table says, each right choice of n and k counted out.
func rightBy(o Option) bool {
	listed := func(front, first, size int) bool {
		for n := 0; front+n*size <= 38; n++ {
			for k := range n + 1 {
				if len(o.Data) == front+n*size && int(o.Data[0]) == first+k*size {
					return true
				}
			}
		}
		return false
	}
	switch o.Kind {
	case 0:
		return false
	case 1:
		return len(o.Data) == 0
	case 7, 131, 137:
		return listed(1, 4, 4)
	case 68:
		if len(o.Data) < 2 {
			return false
		}
		size, ok := map[byte]int{0: 4, 1: 8, 3: 8}[o.Data[1]&15]
		return ok && listed(2, 5, size)
	case 148:
		return len(o.Data) == 2
	}
	return len(o.Data) <= 38
}

// same reports whether two options are equal; Data that is nil and Data that is empty are the same.
func same(a, b Option) bool { return a.Kind == b.Kind && bytes.Equal(a.Data, b.Data) }

// none reports whether an option is the zero value.
func none(o Option) bool { return o.Kind == 0 && o.Data == nil }

// asks checks whether an option is right, and that it stays as it is.
func asks(t *testing.T, o Option, want bool) {
	t.Helper()
	before := slices.Clone(o.Data)
	if got := Right(o); got != want {
		t.Error(o, len(o.Data), got)
	}
	if !slices.Equal(o.Data, before) {
		t.Error("the argument is modified:", o, before)
	}
}

// P6.1: what the chapter names, counted out.
func TestRight(t *testing.T) {
	for _, kind := range routes {
		for _, c := range []struct {
			data []byte
			want bool
		}{
			{nil, false}, {[]byte{}, false}, {[]byte{4}, true}, {[]byte{8}, false}, {[]byte{3}, false}, {[]byte{5}, false}, {[]byte{0}, false}, {[]byte{255}, false},
			{data(1, 4), false}, {data(2, 4), false}, {data(3, 4), false}, {data(5, 4), false},
			{data(4, 4), true}, {data(4, 8), true}, {data(4, 12), false}, {data(4, 0), false}, {data(4, 1), false}, {data(4, 3), false}, {data(4, 5), false}, {data(4, 6), false}, {data(4, 7), false}, {data(4, 9), false}, {data(4, 252), false},
			{data(8, 4), true}, {data(8, 8), true}, {data(8, 12), true}, {data(8, 10), false}, {data(8, 16), false},
			{data(36, 4), true}, {data(36, 36), true}, {data(36, 40), true}, {data(36, 38), false}, {data(36, 41), false}, {data(36, 44), false}, {data(36, 0), false}, {data(37, 4), false}, {data(37, 41), false},
			{data(40, 4), false}, {data(40, 40), false}, {data(40, 44), false},
		} {
			asks(t, Option{kind, c.data}, c.want)
		}
	}
	for _, c := range []struct {
		data []byte
		want bool
	}{
		{nil, false}, {[]byte{5}, false}, {[]byte{5, 0}, true}, {[]byte{5, 1}, true}, {[]byte{5, 3}, true}, {[]byte{5, 2}, false}, {[]byte{5, 4}, false}, {[]byte{5, 8}, false}, {[]byte{5, 15}, false}, {[]byte{5, 16}, true}, {[]byte{5, 0xf1}, true}, {[]byte{5, 0x83}, true}, {[]byte{5, 0xf2}, false}, {[]byte{4, 0}, false}, {[]byte{9, 0}, false}, {[]byte{0, 0}, false}, {[]byte{13, 1}, false},
		{data(4, 5, 0), true}, {data(4, 9, 0), true}, {data(4, 7, 0), false}, {data(4, 4, 0), false}, {data(4, 1, 0), false}, {data(4, 13, 0), false}, {data(4, 10, 0), false}, {data(4, 5, 1), false}, {data(4, 9, 3), false}, {data(4, 5, 2), false}, {data(3, 5, 0), false}, {data(5, 5, 0), false},
		{data(8, 5, 1), true}, {data(8, 13, 1), true}, {data(8, 5, 3), true}, {data(8, 13, 3), true}, {data(8, 9, 1), false}, {data(8, 9, 3), false}, {data(8, 9, 0), true}, {data(8, 21, 1), false}, {data(8, 17, 0), false}, {data(8, 13, 2), false},
		{data(36, 5, 0), true}, {data(36, 41, 0), true}, {data(36, 45, 0), false}, {data(36, 5, 1), false}, {data(32, 37, 3), true}, {data(32, 29, 3), true}, {data(32, 33, 3), false}, {data(32, 45, 3), false}, {data(40, 5, 0), false}, {data(40, 5, 1), false}, {data(37, 5, 0), false},
	} {
		asks(t, Option{68, c.data}, c.want)
	}
	for n := range 45 {
		asks(t, Option{0, some(n)}, false)
		asks(t, Option{1, some(n)}, n == 0)
		asks(t, Option{148, some(n)}, n == 2)
		for _, kind := range plain {
			asks(t, Option{kind, some(n)}, n <= 38)
		}
	}
	for _, n := range []int{256, 258, 294, 65536, 65538} { // as many as a byte does not count
		for _, kind := range slices.Concat(special, plain) {
			asks(t, Option{kind, some(n)}, false)
			asks(t, Option{kind, data(n, 4)}, false)
			asks(t, Option{kind, data(n, 5, 0)}, false)
		}
	}
}

// P6.1: every kind, number of bytes, and pointer.
func TestRightByTheTable(t *testing.T) {
	for kind := range 256 {
		for n := range 46 {
			for pointer := range 256 {
				if n == 0 && pointer > 0 {
					break
				}
				b := append([]byte{byte(pointer)}, some(46)...)
				o := Option{uint8(kind), b[:n]}
				if got := Right(o); got != rightBy(o) {
					t.Error(kind, n, pointer, got)
				}
			}
		}
	}
}

// P6.1: every F of a stamp, with every pointer that may be right, and others.
func TestRightStamps(t *testing.T) {
	for f := range 256 {
		for n := range 44 {
			for pointer := range 60 {
				o := Option{68, data(n, byte(pointer), byte(f))}
				if got := Right(o); got != rightBy(o) {
					t.Error(f, n, pointer, got)
				}
			}
		}
	}
}

// The numbers of the chapter.
func TestConstants(t *testing.T) {
	if MaxBytes != 40 || ErrCut != 60 || ErrLength != 61 || ErrTail != 62 || ErrTwice != 63 {
		t.Error(MaxBytes, ErrCut, ErrLength, ErrTail, ErrTwice)
	}
	if got := []uint8{KindEnd, KindNop, KindRecord, KindStamp, KindLoose, KindStrict, KindAlert}; !slices.Equal(got, special) {
		t.Error(got)
	}
}
