package frag

import (
	"encoding/binary"
	"math"
	"math/rand"
	"slices"
	"testing"

	"baffle/api"
	"baffle/csum"
	"baffle/ip"
)

// some returns n bytes that differ from those before and after them.
func some(n int) []byte {
	b := make([]byte, n)
	for i := range b {
		b[i] = byte(7 + 31*i)
	}
	return b
}

// packed returns the packet of a header and data, which are right.
func packed(t *testing.T, h ip.Header, data []byte) []byte {
	t.Helper()
	b, e := ip.Write(h, data)
	if e != api.OK {
		t.Fatal("not a packet:", h, len(data), e)
	}
	return b
}

// sealed returns a packet with the checksum of its header, whatever else is wrong with it.
func sealed(b []byte) []byte {
	b, size := slices.Clone(b), int(b[0]%16)*4
	head, _ := csum.Fix(b[:size], 10)
	return append(head, b[size:]...)
}

// cut returns the pieces as the chapter defines them, made of the bytes of the packet.
func cut(b []byte, size int) [][]byte {
	total, from := int(binary.BigEndian.Uint16(b[2:])), int(b[0]%16)*4
	if total-from <= size {
		return [][]byte{slices.Clone(b[:total])}
	}
	var l [][]byte
	for at := from; at < total; at += size {
		end := min(at+size, total)
		piece := slices.Concat(b[:from], b[at:end])
		binary.BigEndian.PutUint16(piece[2:], uint16(len(piece)))
		flags := binary.BigEndian.Uint16(piece[6:]) + uint16((at-from)/8)
		if end < total {
			flags |= 8192
		}
		binary.BigEndian.PutUint16(piece[6:], flags)
		l = append(l, sealed(piece))
	}
	return l
}

// splits checks the pieces of a packet, and that what is given stays as it is.
func splits(t *testing.T, b []byte, size int, want [][]byte, e api.Errno) {
	t.Helper()
	room := append(slices.Clone(b), some(9)...)
	before := slices.Clone(room)
	got, f := Split(room[:len(b)], size)
	if !slices.EqualFunc(got, want, slices.Equal) || f != e || e != api.OK && got != nil {
		t.Errorf("%d bytes by %d: %v %d, want %v %d", len(b), size, got, f, want, e)
	}
	if !slices.Equal(room, before) {
		t.Error("the argument is modified:", room, before)
	}
}

// heads are headers of packets that may be split: a whole one, and the first, one in the middle and the last of some fragments.
func heads() []ip.Header {
	return []ip.Header{
		{ID: 1, TTL: 64, Proto: 17, Src: 0x0a000001, Dst: 0x0a000002},
		{TOS: 3, ID: 2, MF: true, TTL: 9, Proto: 6, Src: 5, Dst: 6, Options: []byte{148, 4, 0, 0}},
		{TOS: 255, ID: 0xffff, MF: true, Offset: 4096, TTL: 255, Proto: 255, Src: 0xffffffff, Dst: 0xfffffffe, Options: some(40)},
		{ID: 0x1234, Offset: 32000, Proto: 1, Src: 0x12345678, Dst: 0x9abcdef0},
	}
}

// The chapter's example, written out.
func TestSplitExample(t *testing.T) {
	h := ip.Header{ID: 1, TTL: 64, Proto: 17, Src: 0x0a000001, Dst: 0x0a000002}
	data := some(20)
	want := [][]byte{}
	for _, c := range []struct {
		offset, from, to int
		more             bool
	}{{0, 0, 8, true}, {8, 8, 16, true}, {16, 16, 20, false}} {
		piece := h
		piece.Offset, piece.MF = c.offset, c.more
		want = append(want, packed(t, piece, data[c.from:c.to]))
	}
	splits(t, packed(t, h, data), 8, want, api.OK)
}

// P7.1: sizes from 8 to more than all data, of packets with every number of bytes up to 50.
func TestSplit(t *testing.T) {
	for _, h := range heads() {
		for n := range 50 {
			if !ip.Right(h, n) {
				continue
			}
			b := packed(t, h, some(n))
			for size := 8; size < 80; size += 8 {
				splits(t, b, size, cut(b, size), api.OK)
				splits(t, slices.Concat(b, some(n%5)), size, cut(b, size), api.OK)
			}
			splits(t, b, math.MaxInt-7, [][]byte{b}, api.OK)
			splits(t, slices.Concat(b, b), 65536, [][]byte{b}, api.OK)
		}
	}
}

// P7.1: how many pieces there are, of sizes about that of the data.
func TestSplitCounts(t *testing.T) {
	for _, c := range []struct{ n, size, pieces int }{
		{0, 8, 1}, {1, 8, 1}, {7, 8, 1}, {8, 8, 1}, {9, 8, 2}, {16, 8, 2}, {17, 8, 3}, {24, 16, 2}, {24, 24, 1}, {24, 32, 1}, {24, 8, 3},
		{31, 32, 1}, {32, 32, 1}, {33, 32, 2}, {40, 32, 2}, {65515, 8, 8190}, {65515, 65512, 2}, {65515, 65520, 1}, {65512, 65512, 1}, {65512, 65504, 2},
	} {
		h := ip.Header{ID: 7, TTL: 64}
		b := packed(t, h, some(c.n))
		l, e := Split(b, c.size)
		if len(l) != c.pieces || e != api.OK {
			t.Error(c, len(l), e)
		}
		h.DF = true
		if l, e := Split(packed(t, h, some(c.n)), c.size); c.pieces == 1 && (len(l) != 1 || e != api.OK) || c.pieces > 1 && (l != nil || e != ErrDF) {
			t.Error("with DF:", c, len(l), e)
		}
	}
}

// P7.1: of a packet that is not split nothing changes, not even a checksum of 65535; and a DF of one stays.
func TestSplitOne(t *testing.T) {
	h := ip.Header{DF: true, TTL: 3, Proto: 6, Src: 77, Options: some(8)}
	b := packed(t, h, some(16))
	splits(t, b, 16, [][]byte{b}, api.OK)
	splits(t, slices.Concat(b, some(100)), 24, [][]byte{b}, api.OK)
	splits(t, b, 8, nil, ErrDF)
	h.DF = false
	b = packed(t, h, some(16))
	h.ID = binary.BigEndian.Uint16(b[10:]) // so that the checksum is 0, or 65535
	b = packed(t, h, some(16))
	full := slices.Replace(slices.Clone(b), 10, 12, 255, 255)
	if b[10] != 0 || b[11] != 0 || !csum.Right(full[:28]) {
		t.Fatal(b)
	}
	splits(t, full, 16, [][]byte{full}, api.OK)
	splits(t, full, 8, cut(b, 8), api.OK)
}

// P7.1: sizes that are not right, even of bytes that are no packet.
func TestSplitSizes(t *testing.T) {
	good := packed(t, ip.Header{TTL: 1}, some(30))
	whole := packed(t, ip.Header{TTL: 1, DF: true}, some(30))
	for _, b := range [][]byte{good, whole, nil, some(19), some(30)} {
		for size := -40; size < 200; size++ {
			if size < 8 || size%8 != 0 {
				splits(t, b, size, nil, api.ErrArg)
			}
		}
		for _, size := range []int{math.MinInt, math.MinInt + 8, math.MaxInt, 65535, 65537, 1 << 40 / 3} {
			splits(t, b, size, nil, api.ErrArg)
		}
	}
}

// wrongs are bytes that are no packets, each with the error of ip.Read; what they hold would be a fragment, may not be split, and has the name of any other.
func wrongs(t *testing.T) map[api.Errno][]byte {
	t.Helper()
	b := packed(t, ip.Header{ID: 5, DF: true, Offset: 8, MF: true, TTL: 9, Proto: 17, Src: 1, Dst: 2}, some(24))
	with := func(at int, x ...byte) []byte { return slices.Replace(slices.Clone(b), at, at+len(x), x...) }
	return map[api.Errno][]byte{
		ip.ErrShort:   b[:19],
		ip.ErrVersion: sealed(with(0, 0x55)),
		ip.ErrHeader:  with(0, 0x44),
		ip.ErrTotal:   sealed(with(3, 45)),
		ip.ErrSum:     with(10, ^b[10]),
		ip.ErrFlags:   sealed(with(6, b[6]|128)),
		ip.ErrOffset:  sealed(with(6, 0x7f, 0xff)),
	}
}

// P7.1: the errors of ip.Read, before that of DF.
func TestSplitNoPacket(t *testing.T) {
	for want, b := range wrongs(t) {
		if _, _, _, e := ip.Read(b); e != want {
			t.Fatal(b, e, want)
		}
		splits(t, b, 8, nil, want)
		splits(t, b, 1<<30, nil, want)
		splits(t, b, 7, nil, api.ErrArg)
	}
	splits(t, nil, 8, nil, ip.ErrShort)
}

// P7.1: neither the argument nor other pieces share memory with a piece.
func TestSplitMemory(t *testing.T) {
	for _, size := range []int{8, 32} {
		b := packed(t, heads()[0], some(20))
		before, want := slices.Clone(b), cut(b, size)
		l, _ := Split(b, size)
		clear(b)
		for i, piece := range l {
			if !slices.Equal(piece, want[i]) {
				t.Error("shared:", i, piece, want[i])
			}
			_ = append(piece, some(60)...)
			clear(piece[:cap(piece)])
		}
		if again, _ := Split(before, size); !slices.EqualFunc(again, want, slices.Equal) {
			t.Error(again, want)
		}
	}
}

// P7.5: pieces split again are those of the packet split by the smaller size, if it divides the greater one.
func TestSplitAgain(t *testing.T) {
	r := rand.New(rand.NewSource(75))
	for range 3000 {
		h := heads()[r.Intn(4)]
		n := 8 + r.Intn(300)
		if h.MF {
			n -= n % 8
		}
		b := packed(t, h, some(n))
		size := 8 * (1 + r.Intn(5))
		var l [][]byte
		first, _ := Split(b, size*(1+r.Intn(6)))
		for _, piece := range first {
			parts, e := Split(piece, size)
			if e != api.OK {
				t.Fatal(e)
			}
			l = append(l, parts...)
		}
		if !slices.EqualFunc(l, cut(b, size), slices.Equal) {
			t.Error(h, n, size, l)
		}
	}
}
