package tcp

import (
	"encoding/binary"
	"math/rand"
	"reflect"
	"slices"
	"testing"

	"baffle/api"
)

// sum adds up the words of some bytes, with an end-around carry; a byte 0 is behind an odd number of them.
func sum(b []byte) uint16 {
	s := 0
	for i, x := range b {
		n := int(x)
		if i%2 == 0 {
			n *= 256
		}
		if s += n; s > 65535 {
			s -= 65535
		}
	}
	return uint16(s)
}

// pseudo returns the bytes of a pseudo header; of the length, only the lower 16 bits.
func pseudo(src, dst uint32, length int) []byte {
	b := binary.BigEndian.AppendUint32(nil, src)
	b = binary.BigEndian.AppendUint32(b, dst)
	return binary.BigEndian.AppendUint16(append(b, 0, 6), uint16(length))
}

// sealed returns a segment with its checksum.
func sealed(b []byte, src, dst uint32) []byte {
	b = slices.Clone(b)
	b[16], b[17] = 0, 0
	binary.BigEndian.PutUint16(b[16:], 65535-sum(slices.Concat(pseudo(src, dst, len(b)), b)))
	return b
}

// packed returns a segment as the chapter says, whether or not it is right.
func packed(h Header, src, dst uint32, data []byte) []byte {
	b := binary.BigEndian.AppendUint16(nil, h.SrcPort)
	b = binary.BigEndian.AppendUint16(b, h.DstPort)
	b = binary.BigEndian.AppendUint32(b, h.Seq)
	b = binary.BigEndian.AppendUint32(b, h.Ack)
	b = append(b, byte((20+len(h.Options))/4)<<4, h.Flags)
	b = binary.BigEndian.AppendUint16(b, h.Window)
	b = append(b, 0, 0)
	b = binary.BigEndian.AppendUint16(b, h.Urgent)
	return sealed(slices.Concat(b, h.Options, data), src, dst)
}

// some returns n bytes that differ from those before and after them.
func some(n int) []byte {
	b := make([]byte, n)
	for i := range b {
		b[i] = byte(11 + 29*i)
	}
	return b
}

// the example of the chapter
const exampleSrc, exampleDst = 0x0a000001, 0x0a000002

var (
	exampleHeader = Header{SrcPort: 1024, DstPort: 80, Seq: 1, Flags: api.SYN, Window: 512}
	example       = []byte{4, 0, 0, 80, 0, 0, 0, 1, 0, 0, 0, 0, 80, 2, 2, 0, 149, 143, 0, 0}
)

// headers are right; in most of them no two bytes are equal.
func headers() []Header {
	return []Header{
		exampleHeader,
		{SrcPort: 0x1234, DstPort: 0x5678, Seq: 0x9abcdef0, Ack: 0x11335577, Flags: api.ACK, Window: 0x2244, Urgent: 0x6688},
		{SrcPort: 0xfedc, DstPort: 0xba98, Seq: 0x76543210, Ack: 0x01030507, Flags: api.FIN | api.ACK | api.PSH, Window: 0x090b, Urgent: 0x0d0f, Options: []byte{2, 4, 5, 180}},
		{SrcPort: 1, DstPort: 65535, Seq: 0xffffffff, Ack: 0xffffffff, Flags: 255 - api.SYN - api.FIN, Window: 65535, Urgent: 65535, Options: some(40)},
		{SrcPort: 65535, DstPort: 1, Flags: api.RST, Options: make([]byte, 16)},
		{SrcPort: 256, DstPort: 256, Ack: 1, Flags: api.SYN | api.ACK, Options: some(36)},
		{SrcPort: 1, DstPort: 1, Flags: api.SYN},
	}
}

// same reports whether two headers are equal; Options that are nil and Options that are empty are the same.
func same(a, b Header) bool {
	if !slices.Equal(a.Options, b.Options) {
		return false
	}
	a.Options, b.Options = nil, nil
	return reflect.DeepEqual(a, b)
}

// reads checks what is read of a segment.
func reads(t *testing.T, b []byte, h Header) {
	t.Helper()
	before := slices.Clone(b)
	got, from, e := Read(b)
	if !same(got, h) || from != 20+len(h.Options) || e != api.OK {
		t.Error(h, got, from, e)
	}
	if !slices.Equal(b, before) {
		t.Error("the argument is modified:", b, before)
	}
}

// fails checks that some bytes are not read, and that the other results are zero.
func fails(t *testing.T, b []byte, want api.Errno) {
	t.Helper()
	before := slices.Clone(b)
	if h, from, e := Read(b); !reflect.DeepEqual(h, Header{}) || from != 0 || e != want {
		t.Error(b[:min(len(b), 60)], len(b), h, from, e, want)
	}
	if !slices.Equal(b, before) {
		t.Error("the argument is modified:", b, before)
	}
}

// P8.1: each field has its place; data is behind the options.
func TestRead(t *testing.T) {
	reads(t, example, exampleHeader)
	for _, h := range headers() {
		for _, n := range []int{0, 1, 2, 3, 4, 21, 1460, 65475, 65515, 65535, 70000} {
			reads(t, packed(h, 5, 6, some(n)), h)
		}
	}
	for size := 0; size <= 40; size += 4 {
		for n := range 22 {
			h := Header{SrcPort: 9, DstPort: 7, Ack: uint32(n), Flags: api.ACK, Options: some(size)}
			reads(t, packed(h, 1, 2, some(n)), h)
		}
	}
}

// P8.1: the checksum is not looked at, and neither is what the options are.
func TestReadAnySum(t *testing.T) {
	for _, h := range headers() {
		b := packed(h, 5, 6, some(3))
		for check := range 1 << 16 {
			binary.BigEndian.PutUint16(b[16:], uint16(check))
			if got, from, e := Read(b); !same(got, h) || from != 20+len(h.Options) || e != api.OK {
				t.Fatal(check, got, from, e)
			}
		}
	}
	for _, options := range [][]byte{{0, 0, 0, 1}, {2, 4, 0, 0}, {3, 3, 15, 99}, {9, 0, 1, 2}, {5, 255, 255, 255}, {1, 1, 1, 2}} {
		h := Header{SrcPort: 3, DstPort: 4, Flags: api.SYN, Options: options}
		reads(t, packed(h, 5, 6, nil), h)
	}
}

// P8.1: 0, 19, 20 and 21 bytes, and all others, with each H.
func TestReadLengths(t *testing.T) {
	base := packed(exampleHeader, 5, 6, some(60))
	fails(t, nil, ErrShort)
	fails(t, []byte{}, ErrShort)
	for n := range 75 {
		for words := range 16 {
			b := slices.Clone(base[:n])
			if n > 12 {
				b[12] = byte(words * 16)
			}
			switch {
			case n < 20:
				fails(t, b, ErrShort)
			case words < 5 || words*4 > n:
				fails(t, b, ErrHeader)
				fails(t, slices.Clip(b), ErrHeader)
			default:
				h := exampleHeader
				h.Options = b[20 : words*4]
				reads(t, b, h)
			}
		}
	}
}

// P8.1: H of 16, 20, 24 and 60, and one that is greater than there are bytes.
func TestReadHeader(t *testing.T) {
	for _, c := range []struct {
		size, n int
		want    api.Errno
	}{
		{16, 20, ErrHeader}, {16, 60, ErrHeader}, {16, 16, ErrShort}, {0, 20, ErrHeader}, {4, 60, ErrHeader}, {20, 19, ErrShort}, {20, 20, api.OK}, {20, 21, api.OK}, {24, 20, ErrHeader}, {24, 21, ErrHeader}, {24, 23, ErrHeader}, {24, 24, api.OK}, {24, 25, api.OK}, {60, 20, ErrHeader}, {60, 56, ErrHeader}, {60, 59, ErrHeader}, {60, 60, api.OK}, {60, 61, api.OK}, {60, 65536, api.OK},
	} {
		b := packed(exampleHeader, 1, 2, some(65516))[:c.n]
		b[12] = byte(c.size / 4 * 16)
		_, from, e := Read(b)
		if e != c.want || e == api.OK && from != c.size || e != api.OK && from != 0 {
			t.Error(c, from, e)
		}
	}
}

// P8.1: the flags must be sane, and none of the four lower bits of byte 12 may be set.
func TestReadFlags(t *testing.T) {
	for _, size := range []int{0, 4, 40} {
		h := Header{SrcPort: 3, DstPort: 4, Options: some(size)}
		b := packed(h, 5, 6, some(9))
		for lower := range 16 {
			for flags := range 256 {
				b[12], b[13] = byte((20+size)*4+lower), byte(flags)
				h.Flags = byte(flags)
				if lower == 0 && saneBy(h.Flags) {
					reads(t, b, h)
				} else {
					fails(t, b, ErrFlags)
				}
			}
		}
	}
}

// P8.1: each port 0; a byte 0 of a port alone does not matter.
func TestReadPorts(t *testing.T) {
	for _, src := range []uint16{0, 1, 255, 256, 32768, 65280, 65535} {
		for _, dst := range []uint16{0, 1, 255, 256, 32768, 65280, 65535} {
			h := Header{SrcPort: src, DstPort: dst, Flags: api.ACK}
			b := packed(h, 5, 6, some(3))
			if src == 0 || dst == 0 {
				fails(t, b, ErrPort)
			} else {
				reads(t, b, h)
			}
		}
	}
}

// A defect makes a segment of 36 bytes wrong; each is asked for with those that come after it.
var defects = []struct {
	want  api.Errno
	kinds []func(b []byte)
}{
	{ErrPort, []func(b []byte){
		func(b []byte) { b[0], b[1] = 0, 0 },
		func(b []byte) { b[2], b[3] = 0, 0 },
		func(b []byte) { b[0], b[1], b[2], b[3] = 0, 0, 0, 0 },
	}},
	{ErrFlags, []func(b []byte){
		func(b []byte) { b[12] |= 1 },
		func(b []byte) { b[12] |= 2 },
		func(b []byte) { b[12] |= 4 },
		func(b []byte) { b[12] |= 8 },
		func(b []byte) { b[13] = 0 },
		func(b []byte) { b[13] = api.FIN | api.SYN },
		func(b []byte) { b[12], b[13] = b[12]|15, 7 },
	}},
	{ErrHeader, []func(b []byte){
		func(b []byte) { b[12] = b[12]%16 + 64 },
		func(b []byte) { b[12] %= 16 },
		func(b []byte) { b[12] = b[12]%16 + 160 },
		func(b []byte) { b[12] = b[12]%16 + 240 },
	}},
	{ErrShort, []func(b []byte){nil}},
}

// withDefects calls a function with the segment with each choice of one kind, or none, of each defect from a number on, and what is to be said of it then.
func withDefects(b []byte, from int, want api.Errno, f func(b []byte, want api.Errno)) {
	if from == len(defects) {
		f(b, want)
		return
	}
	withDefects(b, from+1, want, f)
	for _, spoil := range defects[from].kinds {
		if spoil == nil {
			for _, n := range []int{0, 1, 12, 13, 14, 18, 19} {
				withDefects(b[:n], from+1, defects[from].want, f)
			}
			continue
		}
		spoiled := slices.Clone(b)
		spoil(spoiled)
		withDefects(spoiled, from+1, defects[from].want, f)
	}
}

// P8.1: of all things that are wrong the first one is returned.
func TestErrorsInOrder(t *testing.T) {
	asked := map[api.Errno]int{}
	for _, size := range []int{0, 4, 16} {
		h := Header{SrcPort: 1, DstPort: 2, Flags: api.SYN, Options: some(size)}
		withDefects(packed(h, 5, 6, some(16-size)), 0, api.OK, func(b []byte, want api.Errno) {
			if asked[want]++; want != api.OK {
				fails(t, b, want)
			} else {
				reads(t, b, h)
			}
		})
	}
	if asked[api.OK] != 3 || asked[ErrPort] != 3*3 || asked[ErrFlags] != 3*4*7 || asked[ErrHeader] != 3*4*8*4 || asked[ErrShort] != 3*4*8*5*7 {
		t.Error(asked)
	}
}

// faultBy says what the chapter says of some bytes.
func faultBy(b []byte) api.Errno {
	switch {
	case len(b) < 20:
		return ErrShort
	case b[12]>>4 < 5 || int(b[12]>>4)*4 > len(b):
		return ErrHeader
	case b[12]&15 > 0 || !saneBy(b[13]):
		return ErrFlags
	case b[0]|b[1] == 0 || b[2]|b[3] == 0:
		return ErrPort
	}
	return api.OK
}

// P8.1, R1: any bytes are read, or have their error.
func TestAnyBytes(t *testing.T) {
	for n := range 100 {
		for _, x := range []byte{0, 255, 80, 16} {
			b := slices.Repeat([]byte{x}, n)
			if want := faultBy(b); want != api.OK {
				fails(t, b, want)
			}
		}
	}
	r := rand.New(rand.NewSource(8))
	seen := map[api.Errno]int{}
	for range 300000 {
		b := make([]byte, 17+r.Intn(60))
		r.Read(b)
		if r.Intn(4) > 0 {
			b[12] = byte(r.Intn(16) * 16)
		}
		if r.Intn(9) == 0 {
			clear(b[2*r.Intn(2):][:2])
		}
		want := faultBy(b)
		if seen[want]++; want != api.OK {
			fails(t, b, want)
			continue
		}
		h, from, e := Read(b)
		again := packed(h, 5, 6, b[from:])
		copy(again[16:18], b[16:18])
		if e != api.OK || !slices.Equal(again, b) {
			t.Error(b, h, from, e)
		}
	}
	for _, e := range []api.Errno{api.OK, ErrShort, ErrHeader, ErrFlags, ErrPort} {
		if seen[e] < 100 {
			t.Error("it is hardly asked for:", e, seen)
		}
	}
}
