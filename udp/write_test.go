package udp

import (
	"slices"
	"testing"

	"baffle/api"
)

// verifies checks what is said of the checksum of a right datagram, and that the argument stays as it is.
func verifies(t *testing.T, b []byte, src, dst uint32, want bool) {
	t.Helper()
	before := slices.Clone(b)
	if ok, e := Verify(b, src, dst); ok != want || e != api.OK {
		t.Error(b[:min(len(b), 60)], len(b), src, dst, ok, e, want)
	}
	if !slices.Equal(b, before) {
		t.Error("the argument is modified:", b, before)
	}
}

// writes checks what is written of a header and data, that it is verified, and that the data stays as it is.
func writes(t *testing.T, h Header, src, dst uint32, data []byte) {
	t.Helper()
	before := slices.Clone(data)
	b, e := Write(h, src, dst, data)
	if !slices.Equal(b, packed(h, src, dst, data)) || e != api.OK {
		t.Error(h, len(data), b[:min(len(b), 60)], len(b), e)
		return
	}
	verifies(t, b, src, dst, true)
	verifies(t, b, dst, src, true)
	if !slices.Equal(data, before) {
		t.Error("an argument is modified:", data)
	}
}

// refuses checks that nothing is written.
func refuses(t *testing.T, h Header, data []byte) {
	t.Helper()
	for _, src := range addresses {
		if b, e := Write(h, src, 6, data); b != nil || e != api.ErrArg {
			t.Error(h, len(data), b[:min(len(b), 60)], len(b), e)
		}
	}
}

// addresses have words that carry, and words that do not.
var addresses = []uint32{0, 1, 0x0a000001, 0x0a000002, 0x00010000, 0x80008000, 0xfffe0001, 0xffff0000, 0x0000ffff, 0xffffffff}

// P9.2: each number has its place, and the checksum is put in if it is asked for.
func TestWrite(t *testing.T) {
	if b, e := Write(exampleHeader, exampleSrc, exampleDst, []byte{1, 2, 3}); !slices.Equal(b, example) || e != api.OK {
		t.Error(b, e)
	}
	unchecked := Header{SrcPort: 53, DstPort: 1000}
	if b, e := Write(unchecked, exampleSrc, exampleDst, []byte{1, 2, 3}); !slices.Equal(b, with2(example, 6, 0)) || e != api.OK {
		t.Error(b, e)
	}
	for _, h := range headers() {
		for _, src := range addresses {
			for _, dst := range addresses {
				writes(t, h, src, dst, some(int(src)%7))
			}
		}
		for n := range 40 {
			writes(t, h, 5, 6, some(n))
		}
		writes(t, h, 5, 6, []byte{})
		writes(t, h, 0, 0, nil)
	}
	for _, n := range []int{247, 248, 249, 503, 504, 1460} {
		writes(t, exampleHeader, 5, 6, some(n))
		writes(t, unchecked, 5, 6, make([]byte, n))
	}
}

// P9.2: a DstPort of 0 is refused, one of which a byte is 0 is not; a SrcPort of 0 is written.
func TestWriteRefusesPorts(t *testing.T) {
	long := some(65508)
	for _, checked := range []bool{false, true} {
		for _, src := range []uint16{0, 1, 53, 256, 65535} {
			for _, data := range [][]byte{nil, some(1), some(8), long[:65507], long} {
				refuses(t, Header{src, 0, checked}, data)
			}
			writes(t, Header{src, 1, checked}, 5, 6, some(3))
			writes(t, Header{src, 256, checked}, 5, 6, some(3))
		}
		for port := 1; port < 1<<16; port += 7 {
			writes(t, Header{uint16(port), uint16(65536 - port), checked}, 5, 6, some(4))
		}
	}
	refuses(t, Header{}, nil)
}

// P9.2: data of 65507 bytes is written, one more is not.
func TestWriteLong(t *testing.T) {
	long := some(1<<17 + 9)
	for _, checked := range []bool{false, true} {
		for _, port := range []uint16{0, 1, 65535} {
			h := Header{port, 7, checked}
			for _, n := range []int{65000, 65505, 65506, 65507} {
				writes(t, h, 0x0a000001, 0x08080808, long[:n])
			}
			for _, n := range []int{65508, 65509, 65515, 65516, 65527, 65528, 65529, 65535, 65536, 65537, 65540, 1<<17 - 8, 1 << 17, 1<<17 + 8} {
				refuses(t, h, long[:n])
			}
		}
	}
}

// P9.2: the checksum is that of the pseudo header with api.UDP and L, whatever they are.
func TestWriteSums(t *testing.T) {
	for n := range 600 {
		writes(t, Header{SrcPort: 1, DstPort: 2, Checked: true}, 0x0a000001, 0x08080808, make([]byte, n))
		writes(t, Header{SrcPort: 1, DstPort: 2, Checked: true}, 0x0a000001, 0x08080808, slices.Repeat([]byte{255}, n))
	}
}

// withSum returns a Checked header whose datagram with some data has a certain checksum, before 0 is replaced.
func withSum(src, dst uint32, data []byte, check uint16) Header {
	h := Header{SrcPort: 0, DstPort: 9, Checked: true}
	was := computed(packed(h, src, dst, data), src, dst)
	h.SrcPort = uint16((65535 + int(was) - int(check)) % 65535) // the more there is in the sum, the less is the checksum
	return h
}

// P9.2: a checksum that is 0 when it is computed is written as 65535, and is right; 0 in its place says that there is none.
func TestSumOfZero(t *testing.T) {
	for n := range 60 {
		for _, src := range addresses {
			data := some(n)
			h := withSum(src, 0x0a000009, data, 0)
			b, e := Write(h, src, 0x0a000009, data)
			if e != api.OK || b[6] != 255 || b[7] != 255 || computed(b, src, 0x0a000009) != 0 {
				t.Error(h, n, b, e)
				continue
			}
			writes(t, h, src, 0x0a000009, data)
			reads(t, b, h, 8+n)
			verifies(t, with2(b, 6, 0), src, 0x0a000009, true)
			reads(t, with2(b, 6, 0), Header{h.SrcPort, h.DstPort, false}, 8+n)
			for _, check := range []int{1, 255, 256, 32768, 65279, 65280, 65534} {
				verifies(t, with2(b, 6, check), src, 0x0a000009, false)
			}
		}
	}
}

// P9.2: 65535 in place of another checksum is not right.
func TestWrongSumOf65535(t *testing.T) {
	for n := range 60 {
		for _, check := range []uint16{1, 2, 255, 256, 32768, 65280, 65534} {
			data := some(n)
			h := withSum(0x0a000001, 0x0a000009, data, check)
			b, _ := Write(h, 0x0a000001, 0x0a000009, data)
			if len(b) < 8 || sumOf(b) != check {
				t.Error(h, n, check, b)
				continue
			}
			verifies(t, b, 0x0a000001, 0x0a000009, true)
			verifies(t, with2(b, 6, 65535), 0x0a000001, 0x0a000009, false)
		}
	}
}

// P9.2: of all checksums one alone is right, and 0, whatever the sum of the bytes is.
func TestVerifySums(t *testing.T) {
	for n := range 5 {
		for _, check := range []uint16{0, 1, 0x1234, 65534} {
			data := some(n)
			b := packed(withSum(0x0a000001, 0x01020304, data, check), 0x0a000001, 0x01020304, data)
			want := int(check)
			if check == 0 {
				want = 65535
			}
			for c := range 1 << 16 {
				verifies(t, with2(b, 6, c), 0x0a000001, 0x01020304, c == want || c == 0)
			}
		}
	}
}

// P9.2: with a checksum of 0 nothing else is asked: addresses and data may be any.
func TestVerifyUnchecked(t *testing.T) {
	for _, src := range addresses {
		for _, dst := range addresses {
			for n := range 9 {
				for _, data := range [][]byte{some(n), make([]byte, n), slices.Repeat([]byte{255}, n)} {
					verifies(t, packed(Header{SrcPort: 65535, DstPort: 65535}, 0, 0, data), src, dst, true)
				}
			}
		}
	}
}

// P9.2: all lengths, also those that no packet has room for.
func TestVerifyLengths(t *testing.T) {
	long := packed(exampleHeader, 5, 6, some(70000))
	for _, l := range []int{8, 9, 10, 11, 255, 256, 257, 65507, 65508, 65514, 65515, 65516, 65517, 65533, 65534, 65535} {
		for _, src := range addresses {
			b := sealed(with2(long, 4, l), src, 0x0a000002)
			verifies(t, b, src, 0x0a000002, true)
			verifies(t, b[:l], src, 0x0a000002, true)
			b[l-1]++
			verifies(t, b, src, 0x0a000002, false)
			b[l-1]--
			b[l]++
			verifies(t, b, src, 0x0a000002, true)
		}
	}
}

// P9.2: bytes after the datagram are not looked at, not even next to an odd number of them.
func TestVerifyNotBehind(t *testing.T) {
	for n := range 12 {
		b := packed(exampleHeader, exampleSrc, exampleDst, some(n))
		for behind := range 5 {
			for x := range 256 {
				verifies(t, append(slices.Clone(b), slices.Repeat([]byte{byte(x)}, behind)...), exampleSrc, exampleDst, true)
			}
			wrong := append(slices.Clone(b), make([]byte, behind)...)
			wrong[7] ^= 1
			verifies(t, wrong, exampleSrc, exampleDst, false)
		}
	}
}

// P9.2: a SrcPort of 0 is verified as any other is.
func TestVerifyNoSrcPort(t *testing.T) {
	for n := range 12 {
		b := packed(Header{DstPort: 7, Checked: true}, 5, 6, some(n))
		verifies(t, b, 5, 6, true)
		verifies(t, with2(b, 0, 1), 5, 6, false)
		verifies(t, packed(Header{DstPort: 7}, 5, 6, some(n)), 7, 8, true)
	}
}

// P9.2, P9.4: between other addresses a Checked datagram is not verified; between the same ones it is, either way.
func TestVerifyAddresses(t *testing.T) {
	if ok, e := Verify(example, exampleSrc, exampleDst); !ok || e != api.OK {
		t.Error(ok, e)
	}
	verifies(t, example, exampleDst, exampleSrc, true)
	verifies(t, example, exampleSrc, exampleSrc, false)
	verifies(t, example, exampleSrc, exampleDst+1, false)
	verifies(t, example, exampleSrc-1, exampleDst+1, true)
	for _, h := range headers() {
		for _, src := range addresses {
			dst := src*3 + 7
			b := packed(h, src, dst, some(5))
			verifies(t, b, dst, src, true)
			verifies(t, b, src^0x00010000, dst, !h.Checked)
			verifies(t, b, src, dst^0x00000100, !h.Checked)
		}
	}
}
