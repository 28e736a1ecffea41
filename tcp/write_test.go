package tcp

import (
	"encoding/binary"
	"slices"
	"testing"

	"baffle/api"
)

// writes checks what is written of a header and data, that it is verified, and that the arguments stay as they are.
func writes(t *testing.T, h Header, src, dst uint32, data []byte) {
	t.Helper()
	options, before := slices.Clone(h.Options), slices.Clone(data)
	b, e := Write(h, src, dst, data)
	if !slices.Equal(b, packed(h, src, dst, data)) || e != api.OK || !Verify(b, src, dst) {
		t.Error(h, len(data), b[:min(len(b), 60)], len(b), e)
	}
	if !slices.Equal(h.Options, options) || !slices.Equal(data, before) {
		t.Error("an argument is modified:", h, data)
	}
}

// refuses checks that nothing is written.
func refuses(t *testing.T, h Header, data []byte) {
	t.Helper()
	if b, e := Write(h, 5, 6, data); b != nil || e != api.ErrArg {
		t.Error(h, len(data), b[:min(len(b), 60)], len(b), e)
	}
}

// addresses have words that carry, and words that do not.
var addresses = []uint32{0, 1, 0x0a000001, 0x0a000002, 0x00010000, 0x80008000, 0xfffe0001, 0xffff0000, 0x0000ffff, 0xffffffff}

// P8.2: each field has its place, and the checksum is put in.
func TestWrite(t *testing.T) {
	if b, e := Write(exampleHeader, exampleSrc, exampleDst, nil); !slices.Equal(b, example) || e != api.OK {
		t.Error(b, e)
	}
	for _, h := range headers() {
		for _, src := range addresses {
			for _, dst := range addresses {
				writes(t, h, src, dst, some(int(src)%7))
			}
		}
	}
	for size := 0; size <= 40; size += 4 {
		for n := range 40 {
			writes(t, Header{SrcPort: 1, DstPort: 2, Flags: api.RST, Options: some(size)}, 5, 6, some(n))
		}
	}
	writes(t, Header{SrcPort: 1, DstPort: 2, Flags: api.SYN, Options: []byte{}}, 0, 0, []byte{})
}

// P8.2: what options are, and what numbers besides the ports are, does not matter.
func TestWriteAsksNoMore(t *testing.T) {
	for _, options := range [][]byte{{0, 0, 0, 1}, {2, 4, 0, 0}, {3, 3, 15, 99}, {9, 0, 1, 2}, {5, 255, 255, 255}, {1, 1, 1, 2}} {
		writes(t, Header{SrcPort: 1, DstPort: 2, Flags: api.ACK, Options: options}, 5, 6, some(3))
	}
	for _, h := range []Header{{Seq: 1}, {Ack: 1}, {Window: 1}, {Urgent: 1}, {Seq: 0xffffffff, Ack: 0xffffffff}, {Window: 65535, Urgent: 65535}} {
		for _, flags := range []uint8{api.SYN, api.RST, api.ACK | api.URG} {
			h.SrcPort, h.DstPort, h.Flags = 65535, 65535, flags
			writes(t, h, 5, 6, some(3))
		}
	}
}

// P8.2: a port that is 0, flags that are not sane, and options that are too many or end within four bytes.
func TestWriteRefuses(t *testing.T) {
	long := some(300)
	for size := range 300 {
		h := Header{SrcPort: 1, DstPort: 2, Flags: api.SYN, Options: long[:size]}
		if size > 40 || size%4 != 0 {
			refuses(t, h, nil)
			refuses(t, h, some(9))
		} else {
			writes(t, h, 5, 6, nil)
		}
	}
	for _, h := range headers() {
		for _, data := range [][]byte{nil, some(4), some(66000)} {
			for _, spoil := range []func(h *Header){
				func(h *Header) { h.SrcPort = 0 },
				func(h *Header) { h.DstPort = 0 },
				func(h *Header) { h.SrcPort, h.DstPort = 0, 0 },
				func(h *Header) { h.Flags = 0 },
				func(h *Header) { h.Flags = api.FIN },
				func(h *Header) { h.Flags = api.SYN | api.RST },
				func(h *Header) { h.Options = some(41) },
				func(h *Header) { h.Options = some(44) },
				func(h *Header) { h.Options = some(39) },
				func(h *Header) { h.Options = some(66000) },
				func(h *Header) { h.SrcPort, h.Flags, h.Options = 0, 7, some(42) },
			} {
				wrong := h
				spoil(&wrong)
				refuses(t, wrong, data)
			}
		}
	}
	refuses(t, Header{}, nil)
}

// P8.2: a segment of api.MaxPacket - 20 bytes is written, one with one more is not.
func TestWriteLong(t *testing.T) {
	long := some(1 << 17)
	for size := 0; size <= 40; size += 4 {
		h := Header{SrcPort: 1, DstPort: 2, Flags: api.ACK, Options: some(size)}
		most := api.MaxPacket - 20 - 20 - size
		for _, n := range []int{most - 1, most} {
			writes(t, h, 0x0a000001, 0x08080808, long[:n])
		}
		for _, n := range []int{most + 1, most + 2, most + 20, most + 21, 65516, 65535, 65536, 65540, 1 << 17} {
			refuses(t, h, long[:n])
		}
	}
}

// withSum returns a header whose segment with some data has a certain checksum.
func withSum(h Header, src, dst uint32, data []byte, check uint16) Header {
	h.Urgent = 0
	was := binary.BigEndian.Uint16(packed(h, src, dst, data)[16:])
	h.Urgent = uint16((65535 + int(was) - int(check)) % 65535) // the more there is in the sum, the less is the checksum
	return h
}

// P8.2: a checksum of 0 is written as 0, and is right; 65535 in its place is right, too, and nothing else.
func TestSumOfZero(t *testing.T) {
	for _, h := range headers() {
		for n := range 20 {
			data := some(n)
			h = withSum(h, 7, 0x0a000009, data, 0)
			b, e := Write(h, 7, 0x0a000009, data)
			if e != api.OK || b[16] != 0 || b[17] != 0 || !Verify(b, 7, 0x0a000009) {
				t.Error(h, n, b, e)
			}
			writes(t, h, 7, 0x0a000009, data)
			if b[16], b[17] = 255, 255; !Verify(b, 7, 0x0a000009) {
				t.Error(h, n, b)
			}
			for _, check := range []uint16{1, 255, 256, 32768, 65279, 65280, 65534} {
				if binary.BigEndian.PutUint16(b[16:], check); Verify(b, 7, 0x0a000009) {
					t.Error(h, n, check)
				}
			}
		}
	}
}

// P8.2: of all checksums one alone is right, unless it is 0.
func TestVerifySums(t *testing.T) {
	for i, h := range headers() {
		for _, data := range [][]byte{nil, some(i + 1), some(i + 2)} {
			b := packed(h, 0x0a000001, 0x01020304, data)
			want := binary.BigEndian.Uint16(b[16:])
			for check := range 1 << 16 {
				binary.BigEndian.PutUint16(b[16:], uint16(check))
				if got := Verify(b, 0x0a000001, 0x01020304); got != (check == int(want) || want == 0 && check == 65535) {
					t.Error(h, check, want, got)
				}
			}
		}
	}
}

// P8.2: from 20 to api.MaxPacket bytes, an odd number of them, too.
func TestVerifyLengths(t *testing.T) {
	if !Verify(example, exampleSrc, exampleDst) || Verify(example, exampleSrc, exampleDst+1) || Verify(nil, 0, 0) || Verify([]byte{}, 5, 6) {
		t.Error(Verify(example, exampleSrc, exampleDst))
	}
	long := some(1<<16 + 300)
	for _, n := range []int{18, 19, 20, 21, 22, 23, 24, 59, 60, 61, 65514, 65515, 65516, 65517, 65533, 65534, 65535, 65536, 65537, 65555, 65556, 65557, 65600, 65835, 65836} {
		for _, src := range addresses {
			b := sealed(long[:n], src, 0x0a000002)
			if got := Verify(b, src, 0x0a000002); got != (n >= 20 && n <= 65535) {
				t.Error(n, src, got)
			}
			if b[n-1]++; Verify(b, src, 0x0a000002) {
				t.Error(n, src)
			}
		}
	}
	for n := range 20 { // the sum of these is 65535 without a pseudo header, which there is none for
		b := make([]byte, 65536+n)
		if b[0], b[1] = 255, 255; Verify(b, 0, 0) || Verify(b, 0x0a000001, 0x0a000002) {
			t.Error(n)
		}
	}
	for n := range 30 { // the sum of these, with their pseudo headers, is 65535
		if got := Verify(make([]byte, n), uint32(65535-6-n), 0); got != (n >= 20) {
			t.Error(n, got)
		}
	}
}

// P8.2: Verify asks for no more than how many bytes there are, and their sum.
func TestVerifyAsksNoMore(t *testing.T) {
	for _, spoil := range []func(b []byte){
		func(b []byte) { b[12] = 0 },
		func(b []byte) { b[12] = 255 },
		func(b []byte) { b[13] = 0 },
		func(b []byte) { b[13] = 7 },
		func(b []byte) { clear(b[:4]) },
		func(b []byte) { clear(b) },
		func(b []byte) { copy(b, slices.Repeat([]byte{255}, len(b))) },
	} {
		for _, h := range headers() {
			for n := range 4 {
				b := packed(h, 5, 6, some(n))
				spoil(b)
				b = sealed(b, 0x0a000001, 0x0a000002)
				if !Verify(b, 0x0a000001, 0x0a000002) || !Verify(b, 0x0a000002, 0x0a000001) {
					t.Error(b)
				}
			}
		}
	}
}

// P8.2, P8.6: with one bit changed, of header, data or addresses, a segment is not verified.
func TestVerifyOneBit(t *testing.T) {
	for _, h := range headers() {
		for _, n := range []int{0, 1, 2, 3, 16, 17} {
			for _, src := range addresses {
				dst := src*3 + 7
				b := packed(h, src, dst, some(n))
				for bit := range 8 * len(b) {
					b[bit/8] ^= 128 >> (bit % 8)
					if Verify(b, src, dst) {
						t.Error(h, n, src, dst, bit)
					}
					b[bit/8] ^= 128 >> (bit % 8)
				}
				for bit := range 32 {
					if Verify(b, src^1<<bit, dst) || Verify(b, src, dst^1<<bit) {
						t.Error(h, n, src, dst, bit)
					}
				}
				if !Verify(b, src, dst) {
					t.Error(h, n, src, dst)
				}
			}
		}
	}
}

// P8.2: each byte that is missing, or is there besides, is missed.
func TestVerifyOtherLengths(t *testing.T) {
	for _, h := range headers() {
		b := packed(h, 0x0a000001, 0x0a000002, some(9))
		for n := range b {
			if got, want := Verify(b[:n], 0x0a000001, 0x0a000002), n >= 20 && sum(slices.Concat(pseudo(0x0a000001, 0x0a000002, n), b[:n])) == 65535; got != want {
				t.Error(h, n, got)
			}
		}
		if Verify(append(slices.Clone(b), 0), 0x0a000001, 0x0a000002) {
			t.Error(h)
		}
	}
}
