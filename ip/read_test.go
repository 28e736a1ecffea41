package ip

import (
	"encoding/binary"
	"math/rand"
	"reflect"
	"slices"
	"testing"

	"baffle/api"
)

// sum adds up the words of an even number of bytes with an end-around carry.
func sum(b []byte) uint16 {
	s := 0
	for i := 0; i < len(b); i += 2 {
		s += int(binary.BigEndian.Uint16(b[i:]))
		if s > 65535 {
			s -= 65535
		}
	}
	return uint16(s)
}

// sealed returns a packet with the checksum of the first bytes, as many as its header is said to have.
func sealed(b []byte, size int) []byte {
	b = slices.Clone(b)
	b[10], b[11] = 0, 0
	binary.BigEndian.PutUint16(b[10:], 65535-sum(b[:size]))
	return b
}

// packed returns a packet as the chapter's table says, whether or not it is right.
func packed(h Header, data []byte) []byte {
	flags := h.Offset / 8
	if h.DF {
		flags += 16384
	}
	if h.MF {
		flags += 8192
	}
	size := 20 + len(h.Options)
	b := []byte{byte(4*16 + size/4), h.TOS}
	b = binary.BigEndian.AppendUint16(b, uint16(size+len(data)))
	b = binary.BigEndian.AppendUint16(b, h.ID)
	b = binary.BigEndian.AppendUint16(b, uint16(flags))
	b = append(b, h.TTL, h.Proto, 0, 0)
	b = binary.BigEndian.AppendUint32(b, h.Src)
	b = binary.BigEndian.AppendUint32(b, h.Dst)
	b = append(b, h.Options...)
	return append(sealed(b, size), data...)
}

// some returns n bytes that differ from those before and after them.
func some(n int) []byte {
	b := make([]byte, n)
	for i := range b {
		b[i] = byte(7 + 31*i)
	}
	return b
}

// the example of the chapter
var (
	exampleHeader = Header{ID: 1, TTL: 64, Proto: 17, Src: 0x0a000001, Dst: 0x0a000002}
	example       = []byte{69, 0, 0, 22, 0, 1, 0, 0, 64, 17, 102, 212, 10, 0, 0, 1, 10, 0, 0, 2, 7, 8}
)

// headers are headers that are right for 16 bytes of data; no two fields of one are equal.
func headers() []Header {
	return []Header{
		exampleHeader,
		{TOS: 0x12, ID: 0x3456, DF: true, TTL: 0x78, Proto: 0x9a, Src: 0xbcdef012, Dst: 0x3456789b},
		{TOS: 0x12, ID: 0x3456, MF: true, Offset: 8, TTL: 2, Proto: 6, Src: 0x01020304, Dst: 0x05060708, Options: []byte{7, 7, 4, 9}},
		{TOS: 0xff, ID: 0xffff, DF: true, MF: true, Offset: 65496, TTL: 255, Proto: 255, Src: 0xffffffff, Dst: 0xfffffffe, Options: some(40)},
		{Offset: 0x2468, TTL: 3, Src: 1, Options: some(20)},
		{Offset: 8192, TTL: 9, Dst: 0xff000000, Options: make([]byte, 4)},
		{TTL: 2},
	}
}

// same reports whether two headers are equal; Options that are nil and Options that are empty are the same.
func same(a, b Header) bool {
	if !slices.Equal(a.Options, b.Options) {
		return false
	}
	a.Options, b.Options = nil, nil
	return reflect.DeepEqual(a, b)
}

// reads checks what is read of a packet.
func reads(t *testing.T, b []byte, h Header, n int) {
	t.Helper()
	before := slices.Clone(b)
	got, from, to, e := Read(b)
	if size := 20 + len(h.Options); !same(got, h) || from != size || to != size+n || e != api.OK {
		t.Error(h, n, got, from, to, e)
	}
	if !slices.Equal(b, before) {
		t.Error("the argument is modified:", b, before)
	}
}

// fails checks that none of the functions takes some bytes, and that their other results are zero.
func fails(t *testing.T, b []byte, want api.Errno) {
	t.Helper()
	before := slices.Clone(b)
	h, from, to, e := Read(b)
	if !reflect.DeepEqual(h, Header{}) || from != 0 || to != 0 || e != want {
		t.Error("Read:", b[:min(len(b), 60)], len(b), h, from, to, e, want)
	}
	if hop, e := Hop(b); hop != nil || e != want {
		t.Error("Hop:", b[:min(len(b), 60)], len(b), hop, e, want)
	}
	if turned, e := Turn(b); turned != nil || e != want {
		t.Error("Turn:", b[:min(len(b), 60)], len(b), turned, e, want)
	}
	if !slices.Equal(b, before) {
		t.Error("the argument is modified:", b, before)
	}
}

// P5.2: each field has its place; data is behind the header.
func TestRead(t *testing.T) {
	reads(t, example, exampleHeader, 2)
	for _, h := range headers() {
		reads(t, packed(h, some(16)), h, 16)
	}
	full := Header{TTL: 1, Proto: 6, Options: some(40)}
	reads(t, packed(full, nil), full, 0)
	reads(t, packed(Header{}, nil), Header{}, 0)
	for size := 0; size <= 40; size += 4 {
		for n := range 20 {
			h := Header{ID: uint16(n), Options: some(size)}
			reads(t, packed(h, some(n)), h, n)
		}
	}
	fails(t, slices.Replace(slices.Clone(example), 11, 12, 211), ErrSum)
}

// P5.2: each bit of DF, MF and Offset is where it is.
func TestReadFlags(t *testing.T) {
	for i := range 1 << 16 {
		h := Header{DF: i&16384 != 0, MF: i&8192 != 0, Offset: i % 8192 * 8}
		b := packed(h, some(8))
		b[6] |= byte(i >> 8 & 128)
		b = sealed(b, 20)
		switch {
		case i >= 32768:
			fails(t, b, ErrFlags)
		case h.Offset > 65504:
			fails(t, b, ErrOffset)
		default:
			reads(t, b, h, 8)
		}
	}
}

// P5.2: bytes after the packet do not matter, whatever they are, and however many there are.
func TestReadBytesAfter(t *testing.T) {
	for _, h := range headers() {
		b := packed(h, some(16))
		for _, after := range [][]byte{{0}, {1}, {255, 255}, some(7), b, some(70000), make([]byte, 65536-len(b)), make([]byte, 65536)} {
			reads(t, slices.Concat(b, after), h, 16)
		}
		for n := range len(b) { // each byte that is missing is missed
			want := ErrTotal
			switch {
			case n < 20:
				want = ErrShort
			case n < 20+len(h.Options):
				want = ErrHeader
			}
			fails(t, b[:n], want)
			fails(t, b[:n:n], want)
		}
	}
}

// P5.2: the longest packets there are.
func TestReadLong(t *testing.T) {
	for _, c := range []struct {
		options, offset, n int
		more               bool
		want               api.Errno
	}{
		{0, 0, 65515, false, api.OK}, {4, 0, 65511, false, api.OK}, {40, 0, 65475, false, api.OK}, {40, 40, 65475, false, api.OK}, {0, 8, 65507, false, api.OK}, {0, 65512, 3, false, api.OK}, {0, 65512, 0, false, api.OK}, {0, 0, 65512, true, api.OK}, {0, 65504, 8, true, api.OK},
		{0, 8, 65515, false, ErrOffset}, {0, 8, 65508, false, ErrOffset}, {40, 48, 65475, false, ErrOffset}, {0, 65512, 4, false, ErrOffset}, {0, 65520, 0, false, ErrOffset}, {0, 65528, 0, false, ErrOffset}, {0, 65528, 65515, false, ErrOffset}, {0, 0, 65515, true, ErrOffset}, {0, 8, 65512, true, ErrOffset}, {0, 0, 0, true, ErrOffset}, {0, 8, 0, true, ErrOffset}, {0, 0, 7, true, ErrOffset}, {4, 16, 12, true, ErrOffset}, {40, 0, 9, true, ErrOffset},
	} {
		h := Header{ID: 9, MF: c.more, Offset: c.offset, TTL: 5, Options: some(c.options)}
		b := packed(h, some(c.n))
		if c.want == api.OK {
			reads(t, b, h, c.n)
			reads(t, slices.Concat(b, some(3)), h, c.n)
		} else {
			fails(t, b, c.want)
			fails(t, slices.Concat(b, some(8)), c.want)
		}
	}
}

// A defect makes a packet of 36 bytes wrong; each is asked for with those that come after it.
var defects = []struct {
	want  api.Errno
	kinds []func(b []byte)
}{
	{ErrOffset, []func(b []byte){
		func(b []byte) { b[6], b[7] = b[6]|31, 255 },
		func(b []byte) { b[6], b[7] = b[6]|31, 254 },
		func(b []byte) { b[2], b[3], b[6] = 0, b[0]%16*4, b[6]|32 },
		func(b []byte) { b[3], b[6] = b[3]-3, b[6]|32 },
	}},
	{ErrFlags, []func(b []byte){func(b []byte) { b[6] |= 128 }}},
	{ErrTotal, []func(b []byte){
		func(b []byte) { b[2], b[3] = 0, 0 },
		func(b []byte) { b[2], b[3] = 0, b[0]%16*4-1 },
		func(b []byte) { b[2], b[3] = 0, 37 },
		func(b []byte) { b[2], b[3] = 1, 36 },
		func(b []byte) { b[2], b[3] = 255, 255 },
	}},
	{ErrHeader, []func(b []byte){
		func(b []byte) { b[0] = 64 },
		func(b []byte) { b[0] = 64 + 1 },
		func(b []byte) { b[0] = 64 + 4 },
		func(b []byte) { b[0] = 64 + 10 },
		func(b []byte) { b[0] = 64 + 15 },
	}},
	{ErrVersion, []func(b []byte){
		func(b []byte) { b[0] %= 16 },
		func(b []byte) { b[0] = 3*16 + b[0]%16 },
		func(b []byte) { b[0] = 5*16 + b[0]%16 },
		func(b []byte) { b[0] = 6*16 + b[0]%16 },
		func(b []byte) { b[0] |= 128 },
	}},
}

// withDefects calls a function with the packet with each choice of one kind, or none, of each defect from a number on, and what is to be said of it then.
func withDefects(b []byte, from int, want api.Errno, f func(b []byte, want api.Errno)) {
	if from == len(defects) {
		f(b, want)
		return
	}
	withDefects(b, from+1, want, f)
	for _, spoil := range defects[from].kinds {
		spoiled := slices.Clone(b)
		spoil(spoiled)
		withDefects(spoiled, from+1, defects[from].want, f)
	}
}

// P5.2, P5.4: of all things that are wrong the first one is returned, by each function, also with a TTL of 0.
func TestErrorsInOrder(t *testing.T) {
	for _, h := range []Header{{TOS: 1, ID: 2, TTL: 0, Proto: 17, Src: 3, Dst: 4}, {TTL: 1, Options: some(8)}, {TTL: 64, Src: 0xffffffff}} {
		size := 20 + len(h.Options)
		withDefects(packed(h, some(36-size)), 0, api.OK, func(b []byte, want api.Errno) {
			b = sealed(b, size)
			if want == api.OK {
				if _, from, to, e := Read(b); from != size || to != 36 || e != api.OK {
					t.Error(b, from, to, e)
				}
			} else {
				fails(t, b, want)
			}
			for _, at := range []int{1, 5, 8, 10, 11, 12, 19, size - 1} {
				wrong := slices.Clone(b)
				wrong[at] ^= 16
				if want == api.OK || want > ErrSum {
					fails(t, wrong, ErrSum)
				} else {
					fails(t, wrong, want)
				}
				fails(t, wrong[:19], ErrShort)
			}
			fails(t, b[:19], ErrShort)
			fails(t, b[:1], ErrShort)
		})
	}
}

// P5.2: a header is less than 20 bytes, or more than there are, and a total length less than it, or more.
func TestReadLengths(t *testing.T) {
	base := slices.Concat(packed(exampleHeader, some(45)), some(9))
	for _, length := range []int{20, 21, 23, 24, 59, 60, 61, 65, 74} {
		for n := range 16 {
			for total := range 80 {
				b := slices.Clone(base[:length])
				b[0], b[2], b[3] = byte(64+n), 0, byte(total)
				if n < 5 || n*4 > length {
					fails(t, b, ErrHeader)
					continue
				}
				b = sealed(b, n*4)
				if total < n*4 || total > length {
					fails(t, b, ErrTotal)
				} else if _, from, to, e := Read(b); from != n*4 || to != total || e != api.OK {
					t.Error(length, n, total, from, to, e)
				}
			}
		}
	}
}

// P5.2: all words of the header count for the checksum, those of its options too, and no others.
func TestReadSum(t *testing.T) {
	for _, h := range headers() {
		b := packed(h, some(16))
		size := 20 + len(h.Options)
		for at := range b {
			changed := slices.Clone(b)
			changed[at]++
			if at >= size {
				reads(t, changed, h, 16)
			} else if _, _, _, e := Read(changed); e == api.OK {
				t.Error(at, changed)
			}
		}
		for check := range 1 << 16 {
			binary.BigEndian.PutUint16(b[10:], uint16(check))
			if _, _, _, e := Read(b); (e == api.OK) != (sum(b[:size]) == 65535) || e != api.OK && e != ErrSum {
				t.Error(check, e)
			}
		}
	}
}

// faultBy says what the chapter says of some bytes.
func faultBy(b []byte) api.Errno {
	if len(b) < 20 {
		return ErrShort
	}
	size, total, flags := int(b[0]&15)<<2, int(b[2])<<8+int(b[3]), int(b[6])<<8+int(b[7])
	switch {
	case b[0]>>4 != 4:
		return ErrVersion
	case size < 20 || size > len(b):
		return ErrHeader
	case total < size || total > len(b):
		return ErrTotal
	case sum(b[:size]) != 65535:
		return ErrSum
	case flags>>15 == 1:
		return ErrFlags
	case !rightBy(Header{MF: flags>>13&1 == 1, Offset: flags << 3 & 65535, Options: b[20:size]}, total-size):
		return ErrOffset
	}
	return api.OK
}

// P5.2, R1: any bytes are read, or have their error.
func TestAnyBytes(t *testing.T) {
	fails(t, nil, ErrShort)
	fails(t, []byte{}, ErrShort)
	for n := range 100 {
		want := ErrVersion
		if n < 20 {
			want = ErrShort
		}
		fails(t, make([]byte, n), want)
		fails(t, slices.Repeat([]byte{255}, n), want)
	}
	r := rand.New(rand.NewSource(5))
	seen := map[api.Errno]int{}
	for range 300000 {
		b := make([]byte, 17+r.Intn(70))
		r.Read(b)
		if len(b) >= 20 && r.Intn(50) > 0 {
			b[0] = byte(64 + r.Intn(16)*r.Intn(2) + r.Intn(2)*5)
			b[2], b[3] = 0, byte(r.Intn(90))
			if b[0]&15 >= 5 && int(b[0]&15)*4 <= len(b) && r.Intn(9) > 0 {
				b = sealed(b, int(b[0]&15)*4)
			}
		}
		want := faultBy(b)
		if seen[want]++; want != api.OK {
			fails(t, b, want)
			continue
		}
		h, from, to, e := Read(b)
		again := packed(h, b[from:to])
		copy(again[10:12], b[10:12]) // its checksum may be 65535
		if e != api.OK || !slices.Equal(again, b[:to]) {
			t.Error(b, h, from, to, e)
		}
	}
	for e := ErrShort; e <= ErrOffset; e++ {
		if seen[e] == 0 || seen[api.OK] == 0 {
			t.Error("it is never asked for:", e, seen)
		}
	}
}
