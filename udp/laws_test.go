package udp

import (
	"math/bits"
	"math/rand"
	"slices"
	"testing"

	"baffle/api"
)

// verified reports whether bytes are a datagram, and its checksum is right.
func verified(b []byte, src, dst uint32) bool {
	ok, e := Verify(b, src, dst)
	return ok && e == api.OK
}

// oneBit checks that a Checked datagram with one bit changed is not verified. Two changes are no longer those of a Checked datagram with the same bytes: the only bit of its checksum, and one that makes it shorter; what is said of these follows from what is left.
func oneBit(t *testing.T, b []byte, src, dst uint32) {
	t.Helper()
	before := slices.Clone(b)
	for bit := range 8 * len(b) {
		b[bit/8] ^= 128 >> (bit % 8)
		switch {
		case faultBy(b) != api.OK:
			fails(t, b, faultBy(b))
		case sumOf(b) == 0 || lengthOf(b) < len(b):
			verifies(t, b, src, dst, verifiedBy(b, src, dst))
		default:
			verifies(t, b, src, dst, false)
		}
		b[bit/8] ^= 128 >> (bit % 8)
	}
	for bit := range 32 {
		verifies(t, b, src^1<<bit, dst, false)
		verifies(t, b, src, dst^1<<bit, false)
	}
	if !slices.Equal(b, before) || !verified(b, src, dst) {
		t.Error(b, src, dst)
	}
}

// P9.4: each bit of header, data or addresses.
func TestOneBit(t *testing.T) {
	for _, h := range headers() {
		for _, n := range []int{0, 1, 2, 3, 16, 17} {
			if src := addresses[n%len(addresses)]; h.Checked {
				oneBit(t, packed(h, src, 0x0a000002, some(n)), src, 0x0a000002)
			}
		}
	}
	for n := range 20 {
		data := some(n)
		oneBit(t, packed(withSum(5, 6, data, 0), 5, 6, data), 5, 6)
	}
}

// P9.4: no bit of the examples may be changed, not even one of their lengths, for what is cut off counts.
func TestOneBitOfExamples(t *testing.T) {
	for _, n := range []int{0, 1, 3, 8, 40} {
		b := packed(exampleHeader, exampleSrc, exampleDst, some(n))
		if bits.OnesCount16(sumOf(b)) < 2 {
			t.Error(n, sumOf(b))
		}
		for bit := range 8 * len(b) {
			b[bit/8] ^= 1 << (bit % 8)
			if verified(b, exampleSrc, exampleDst) {
				t.Error(n, bit, b)
			}
			b[bit/8] ^= 1 << (bit % 8)
		}
	}
}

// P9.1, P9.2: a checksum whose only bit is changed is 0, so the datagram is no longer Checked, and is right by its definition.
func TestOnlyBitOfSum(t *testing.T) {
	for bit := range 16 {
		data := some(bit)
		h := withSum(5, 6, data, 1<<bit)
		b, e := Write(h, 5, 6, data)
		if e != api.OK || sumOf(b) != 1<<bit {
			t.Error(h, b, e)
			continue
		}
		b = with2(b, 6, 0)
		verifies(t, b, 5, 6, true)
		verifies(t, b, 7, 8, true)
		reads(t, b, Header{h.SrcPort, h.DstPort, false}, 8+bit)
	}
}

// P9.2: a datagram whose length is made less is another one, which is right if what is cut off makes up for its lengths.
func TestShorterByOneBit(t *testing.T) {
	b, e := Write(exampleHeader, exampleSrc, exampleDst, []byte{255, 247, 0, 0}) // 65527, and 4 in each of two lengths, are 65535
	if e != api.OK || lengthOf(b) != 12 {
		t.Error(b, e)
		return
	}
	verifies(t, with2(b, 4, 8), exampleSrc, exampleDst, true)
	verifies(t, with2(with2(b, 4, 8), 8, 65526), exampleSrc, exampleDst, true)
	verifies(t, with2(with2(b, 4, 9), 8, 65526), exampleSrc, exampleDst, false)
}

// anyHeader returns a header that may be written.
func anyHeader(r *rand.Rand) Header {
	return Header{uint16(r.Intn(65536)), uint16(1 + r.Intn(65535)), r.Intn(3) > 0}
}

// P9.4: what is written is read as it was, and is verified between its addresses, either way.
func TestThereAndBack(t *testing.T) {
	r := rand.New(rand.NewSource(94))
	for i := range 20000 {
		h, src, dst := anyHeader(r), r.Uint32(), r.Uint32()
		data := make([]byte, r.Intn(60))
		if i%500 == 0 {
			data = make([]byte, 65507-r.Intn(2))
		}
		r.Read(data)
		writes(t, h, src, dst, data)
		b, e := Write(h, src, dst, data)
		got, end, f := Read(b)
		if got != h || e != api.OK || f != api.OK || !slices.Equal(b[8:end], data) || end != len(b) {
			t.Fatal(h, len(data), got, end, e, f)
		}
		if again, e := Write(got, src, dst, b[8:end]); !slices.Equal(again, b) || e != api.OK {
			t.Error(h, again, b, e)
		}
		if h.Checked && i%100 == 1 {
			oneBit(t, b, src, dst)
		}
		if h.SrcPort > 0 {
			turned, _ := Turn(append(b, data...))
			verifies(t, turned, src, dst, true)
		}
	}
}

// R4: what is returned does not depend on the calls before.
func TestCallsDoNotMatter(t *testing.T) {
	wrong := with2(example, 6, 1)
	for range 3 {
		turns(t, example)
		fails(t, example[:10], ErrLength)
		reads(t, example, exampleHeader, 11)
		verifies(t, wrong, exampleSrc, exampleDst, false)
		verifies(t, example, exampleSrc, exampleDst, true)
		writes(t, exampleHeader, exampleSrc, exampleDst, []byte{1, 2, 3})
		refuses(t, Header{SrcPort: 1}, nil)
	}
}

// P9.2: neither data nor what lies behind it is modified or kept, and no two results share memory.
func TestWriteMemory(t *testing.T) {
	for _, checked := range []bool{false, true} {
		for _, n := range []int{0, 1, 8, 17} {
			h := Header{1, 2, checked}
			data := some(80)
			b, _ := Write(h, 5, 6, data[:n])
			other, _ := Write(h, 5, 6, data[:n])
			want := packed(h, 5, 6, data[:n])
			_ = append(b, 99, 99, 99)
			clear(b[:cap(b)])
			if !slices.Equal(data, some(80)) {
				t.Error("the result shares memory with the argument:", data)
			}
			if clear(data); !slices.Equal(other, want) {
				t.Error("the argument is kept, or two results share memory:", other)
			}
		}
	}
}

// P9.3: neither a datagram nor what lies behind it is modified or kept, and no two results share memory.
func TestTurnMemory(t *testing.T) {
	for n := range 12 {
		for behind := range 4 {
			room := slices.Concat(packed(exampleHeader, 5, 6, some(n)), some(50))
			before := slices.Clone(room)
			b, _ := Turn(room[:8+n+behind])
			other, _ := Turn(room[:8+n+behind])
			want := slices.Concat(room[2:4], room[:2], room[4:8+n])
			_ = append(b, 99, 99, 99)
			clear(b[:cap(b)])
			if !slices.Equal(room, before) {
				t.Error("the result shares memory with the argument:", room)
			}
			if clear(room); !slices.Equal(other, want) {
				t.Error("the argument is kept, or two results share memory:", other)
			}
		}
	}
}

// P9.1, P9.2: bytes that are read and verified are not modified, nor is what lies behind them.
func TestReadMemory(t *testing.T) {
	for n := range 12 {
		room := slices.Concat(packed(exampleHeader, 5, 6, some(n)), some(50))
		before := slices.Clone(room)
		_, end, _ := Read(room[:9+n])
		if ok, _ := Verify(room[:9+n], 5, 6); !ok || end != 8+n || !slices.Equal(room, before) {
			t.Error(ok, end, room, before)
		}
	}
}
