package frag

import (
	"slices"
	"testing"

	"baffle/api"
	"baffle/ip"
)

// The chapter's example of a table, written out.
func TestPutExample(t *testing.T) {
	h := ip.Header{ID: 1, TTL: 64, Proto: 17, Src: 0x0a000001, Dst: 0x0a000002}
	whole := packed(t, h, some(20))
	l, _ := Split(whole, 8)
	p := begin(t, 8, 10)
	p.comes(5, l[2], nil)
	p.comes(6, l[0], nil)
	p.comes(7, l[1], whole)
	p.has()

	g := Group{Src: h.Src, Dst: h.Dst, Proto: 17, ID: 1, Begin: 15, Bytes: 8}
	p = begin(t, 8, 10)
	p.comes(5, l[2], nil)
	p.comes(6, l[0], nil)
	p.comes(15, l[1], nil)
	p.has(g)

	p = begin(t, 8, 10)
	p.comes(5, l[0], nil)
	p.dies(6, l[0])
	p.dies(7, l[1])
	p.dies(14, l[2])
	g.Begin, g.Bytes, g.Dead = 5, 0, true
	p.has(g)
	p.comes(15, l[2], nil)
	p.has(Group{Src: h.Src, Dst: h.Dst, Proto: 17, ID: 1, Begin: 15, Bytes: 4})
}

// P7.3: a whole packet is returned without the bytes after it, makes no group and adds to none.
func TestPutWhole(t *testing.T) {
	p := begin(t, 2, 5)
	h := ip.Header{TOS: 1, ID: 9, TTL: 7, Proto: 6, Src: 3, Dst: 4}
	piece := h
	piece.MF = true
	p.comes(0, packed(t, piece, some(8)), nil)
	g := Group{Src: 3, Dst: 4, Proto: 6, ID: 9, Bytes: 8}
	for i, df := range []bool{false, true} {
		h.DF = df
		for n := range 20 {
			h.Options = some(n * 4 % 44)
			b := packed(t, h, some(n))
			p.comes(i, b, b)
			p.comes(i, slices.Concat(b, some(n)), b)
			p.comes(i, slices.Concat(b, b), b)
			p.has(g)
		}
	}
	long := packed(t, ip.Header{}, some(65515))
	p.comes(4, slices.Concat(long, long), long)
	p.has(g)
	b := packed(t, h, nil)
	p.comes(5, b, b) // it does what Tick does, though it is whole
	p.has()
	if p.table.Now() != 5 {
		t.Error(p.table.Now())
	}
}

// P7.3: a whole packet stays as it is, even with a checksum of 65535.
func TestPutWholeSum(t *testing.T) {
	h := ip.Header{TTL: 1}
	b := packed(t, h, nil)
	h.ID = uint16(b[10])<<8 | uint16(b[11])
	b = slices.Replace(packed(t, h, nil), 10, 12, 255, 255)
	begin(t, 1, 1).comes(0, append(slices.Clone(b), 0), b)
}

// P7.3: with an error of Tick, and then with one of ip.Read, nothing changes, not even the time.
func TestPutErrors(t *testing.T) {
	p := begin(t, 2, 5)
	piece := packed(t, heads()[1], some(16))
	p.comes(6, piece, nil)
	g := p.table.Groups()[0]
	for _, now := range []int{5, 0, -1, 1<<40 + 1} {
		for _, b := range append([][]byte{piece, nil, packed(t, heads()[0], nil)}, values(wrongs(t))...) {
			if got, e := p.put(now, b); got != nil || e != ErrTime || p.table.Now() != 6 {
				t.Error(now, b, got, e)
			}
			p.has(g)
		}
	}
	for want, b := range wrongs(t) {
		for _, now := range []int{6, 7, 11, 1 << 40} { // the group would be over
			if got, e := p.put(now, b); got != nil || e != want || p.table.Now() != 6 {
				t.Error(now, b, got, e, want)
			}
			p.has(g)
		}
	}
	p.dies(7, piece)
	for want, b := range wrongs(t) { // before ErrDead
		if got, e := p.put(8, b); got != nil || e != want || p.table.Now() != 7 {
			t.Error(b, got, e, want)
		}
	}
	if got, e := p.put(6, piece); got != nil || e != ErrTime {
		t.Error(got, e)
	}
	g.Dead, g.Bytes = true, 0
	p.has(g)
}

// values returns the values of a map.
func values(m map[api.Errno][]byte) [][]byte {
	var l [][]byte
	for _, b := range m {
		l = append(l, b)
	}
	return l
}

// P7.3: the whole has the header of the first fragment, with MF false, and nothing of the others but their data.
func TestPutHeader(t *testing.T) {
	first := ip.Header{TOS: 0x12, ID: 0x3456, DF: true, MF: true, TTL: 9, Proto: 17, Src: 1, Dst: 2, Options: []byte{148, 4, 0, 0}}
	middle := ip.Header{TOS: 0xff, ID: 0x3456, MF: true, Offset: 8, TTL: 200, Proto: 17, Src: 1, Dst: 2, Options: some(40)}
	last := ip.Header{TOS: 7, ID: 0x3456, Offset: 24, TTL: 3, Proto: 17, Src: 1, Dst: 2, Options: some(8)}
	data := some(29)
	l := [][]byte{packed(t, first, data[:8]), packed(t, middle, data[8:24]), packed(t, last, data[24:])}
	want := first
	want.MF = false
	whole := packed(t, want, data)
	for _, order := range [][]int{{0, 1, 2}, {0, 2, 1}, {1, 0, 2}, {1, 2, 0}, {2, 0, 1}, {2, 1, 0}} {
		p := begin(t, 1, 1)
		p.comes(0, slices.Concat(l[order[0]], some(50)), nil) // without the bytes after it
		p.comes(0, l[order[1]], nil)
		p.comes(0, slices.Concat(l[order[2]], l[0]), whole)
		p.has()
	}
}

// P7.3: fragments that differ in one of Src, Dst, Proto and ID alone are of different groups; all else does not matter.
func TestPutNames(t *testing.T) {
	base := ip.Header{ID: 1, MF: true, TTL: 1, Proto: 3, Src: 4, Dst: 5}
	others := []ip.Header{base, base, base, base, base, base}
	others[0].Src, others[1].Dst, others[2].Proto, others[3].ID = 5, 4, 1, 3
	others[4].Src, others[4].Dst = 5, 4
	others[5].ID, others[5].Proto = 0x101, 4
	for _, other := range others {
		p := begin(t, 3, 9)
		p.comes(0, packed(t, base, some(8)), nil)
		end := other
		end.MF, end.Offset = false, 8
		p.comes(1, packed(t, end, some(3)), nil)
		p.has(Group{4, 5, 3, 1, 0, 8, false}, Group{end.Src, end.Dst, end.Proto, end.ID, 1, 3, false})
		p.comes(2, packed(t, other, some(8)), packed(t, with(other, 0, false), slices.Concat(some(8), some(3))))
		p.has(Group{4, 5, 3, 1, 0, 8, false})
	}
	for _, same := range []ip.Header{{ID: 1, TOS: 9, TTL: 1, Proto: 3, Src: 4, Dst: 5}, {ID: 1, DF: true, TTL: 255, Proto: 3, Src: 4, Dst: 5}, {ID: 1, Proto: 3, Src: 4, Dst: 5, Options: some(12)}} {
		p := begin(t, 3, 9)
		p.comes(0, packed(t, base, some(8)), nil)
		p.comes(0, packed(t, with(same, 8, false), some(3)), packed(t, with(base, 0, false), slices.Concat(some(8), some(3))))
	}
}

// with returns a header with another Offset and another MF.
func with(h ip.Header, offset int, more bool) ip.Header {
	h.Offset, h.MF = offset, more
	return h
}

// P7.3: if there are limit groups, the one that began first is forgotten for a new one; at the same time, the one that was put first.
func TestPutLimit(t *testing.T) {
	for _, limit := range []int{1, 2, 3, 63, 64} {
		p := begin(t, limit, 1000)
		var l []Group
		for i := range limit {
			h := ip.Header{ID: uint16(100 - i), MF: true, Src: uint32(i * 7 % 5)}
			p.comes(i/3, packed(t, h, some(8)), nil)
			l = append(l, Group{ID: h.ID, Src: h.Src, Begin: i / 3, Bytes: 8})
		}
		p.has(l...)
		for i := range limit { // a group that there is takes no room, and gets no younger
			h := ip.Header{ID: uint16(100 - i), MF: true, Src: uint32(i * 7 % 5), Offset: 16}
			p.comes(40, packed(t, h, some(8)), nil)
			l[i].Bytes = 16
			p.has(l...)
		}
		b := packed(t, ip.Header{}, nil)
		p.comes(40, b, b) // nor does a whole packet
		p.has(l...)
		for i := range limit + 2 {
			p.comes(41, packed(t, ip.Header{ID: 200, Src: uint32(i), MF: true, Offset: 8}, some(24)), nil)
			l = append(l[1:], Group{ID: 200, Src: uint32(i), Begin: 41, Bytes: 24})
			p.has(l...)
		}
	}
}

// P7.3: groups that are over, or were completed, take no room; a dead one does, and is forgotten as others are.
func TestPutRoom(t *testing.T) {
	a, b, c := ip.Header{ID: 1, MF: true}, ip.Header{ID: 2, MF: true}, ip.Header{ID: 3, MF: true}
	p := begin(t, 2, 10)
	p.comes(0, packed(t, a, some(8)), nil)
	p.comes(1, packed(t, b, some(8)), nil)
	p.comes(10, packed(t, c, some(8)), nil) // the first one is over
	p.has(Group{ID: 2, Begin: 1, Bytes: 8}, Group{ID: 3, Begin: 10, Bytes: 8})
	p.comes(10, packed(t, with(c, 8, false), nil), packed(t, with(c, 0, false), some(8)))
	p.comes(10, packed(t, a, some(8)), nil)
	p.has(Group{ID: 2, Begin: 1, Bytes: 8}, Group{ID: 1, Begin: 10, Bytes: 8})
	p.dies(10, packed(t, b, some(8)))
	p.has(Group{ID: 2, Begin: 1, Dead: true}, Group{ID: 1, Begin: 10, Bytes: 8})
	p.comes(10, packed(t, c, some(8)), nil)
	p.has(Group{ID: 1, Begin: 10, Bytes: 8}, Group{ID: 3, Begin: 10, Bytes: 8})
	p.comes(10, packed(t, b, some(8)), nil) // it has begun again
	p.has(Group{ID: 3, Begin: 10, Bytes: 8}, Group{ID: 2, Begin: 10, Bytes: 8})
}

// P7.3: a last one without data ends the datagram, before and after the rest.
func TestPutEmptyLast(t *testing.T) {
	h := ip.Header{ID: 6, Proto: 1}
	whole := packed(t, h, some(24))
	l := [][]byte{packed(t, with(h, 0, true), some(24)[:8]), packed(t, with(h, 8, true), some(24)[8:]), packed(t, with(h, 24, false), nil)}
	for _, order := range [][]int{{0, 1, 2}, {0, 2, 1}, {1, 0, 2}, {1, 2, 0}, {2, 0, 1}, {2, 1, 0}} {
		p := begin(t, 1, 1)
		p.comes(0, l[order[0]], nil)
		p.comes(0, l[order[1]], nil)
		p.comes(0, l[order[2]], whole)
		p.has()
	}
	p := begin(t, 1, 1)
	p.comes(0, l[2], nil)
	p.has(Group{ID: 6, Proto: 1})
}

// P7.4: groups are told in the order in which they began, with the bytes of their parts.
func TestGroups(t *testing.T) {
	p := begin(t, 5, 100)
	for i, id := range []uint16{9, 3, 7, 1} {
		p.comes(2, packed(t, ip.Header{ID: id, MF: true, Offset: 8 * i, Src: uint32(100 - i), Dst: uint32(i), Proto: uint8(50 - i)}, some(8*i+8)), nil)
	}
	p.comes(3, packed(t, ip.Header{ID: 3, Offset: 800, Src: 99, Dst: 1, Proto: 49}, some(5)), nil)
	p.dies(4, packed(t, ip.Header{ID: 7, Offset: 16, Src: 98, Dst: 2, Proto: 48}, some(5)))
	p.comes(4, packed(t, ip.Header{ID: 0, Offset: 16}, some(1)), nil)
	want := []Group{{100, 0, 50, 9, 2, 8, false}, {99, 1, 49, 3, 2, 21, false}, {98, 2, 48, 7, 2, 0, true}, {97, 3, 47, 1, 2, 32, false}, {0, 0, 0, 0, 4, 1, false}}
	p.has(want...)
	l := p.table.Groups()
	_ = append(l, Group{})
	clear(l[:cap(l)])
	p.has(want...)
	p.tick(101)
	p.has(want...)
	p.tick(102)
	p.has(want[4])
}
