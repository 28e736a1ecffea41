package ip

import (
	"math"
	"slices"
	"testing"

	"baffle/api"
)

// writes checks what is written of a header and data, and that they stay as they are.
func writes(t *testing.T, h Header, data []byte) {
	t.Helper()
	options, before := slices.Clone(h.Options), slices.Clone(data)
	b, e := Write(h, data)
	if !slices.Equal(b, packed(h, data)) || e != api.OK {
		t.Error(h, len(data), b[:min(len(b), 60)], len(b), e)
	}
	if !slices.Equal(h.Options, options) || !slices.Equal(data, before) {
		t.Error("an argument is modified:", h, data)
	}
}

// P5.3: each field has its place, and the checksum is put into the header.
func TestWrite(t *testing.T) {
	if b, e := Write(exampleHeader, []byte{7, 8}); !slices.Equal(b, example) || e != api.OK {
		t.Error(b, e)
	}
	for _, h := range headers() {
		writes(t, h, some(16))
	}
	writes(t, Header{}, nil)
	writes(t, Header{Options: []byte{}}, []byte{})
	writes(t, Header{Options: some(40)}, nil)
	for size := 0; size <= 40; size += 4 {
		for n := range 20 {
			writes(t, Header{TTL: 1, Options: some(size)}, some(n))
		}
	}
	for offset := 0; offset < 65512; offset += 8 {
		writes(t, Header{Offset: offset, DF: offset%16 == 0}, []byte{1, 2, 3})
		if offset < 65512-8 {
			writes(t, Header{Offset: offset, MF: true, DF: offset%16 == 0}, some(8))
		}
	}
	for _, c := range []struct {
		options, offset, n int
		more               bool
	}{{0, 0, 65515, false}, {4, 0, 65511, false}, {40, 0, 65475, false}, {40, 40, 65475, false}, {0, 65512, 3, false}, {0, 65512, 0, false}, {0, 0, 65512, true}, {0, 65504, 8, true}, {40, 0, 65472, true}} {
		writes(t, Header{MF: c.more, Offset: c.offset, Options: some(c.options)}, some(c.n))
	}
}

// P5.3: a header that is not right for the data is not written.
func TestWriteRefuses(t *testing.T) {
	long := some(65600)
	for _, size := range []int{0, 1, 2, 3, 4, 5, 7, 39, 40, 41, 43, 44, 48, 60, 100, 260} {
		for _, offset := range offsets {
			for _, n := range counts {
				for _, more := range []bool{false, true} {
					h := Header{MF: more, Offset: offset, Options: long[:size]}
					if n < 0 || n > len(long) || rightBy(h, n) {
						continue
					}
					if b, e := Write(h, long[:n]); b != nil || e != api.ErrArg {
						t.Error(size, offset, n, more, len(b), e)
					}
				}
			}
		}
	}
	for _, h := range []Header{{MF: true}, {Offset: 65528}, {Offset: 1}, {Offset: -8}, {Options: []byte{1}}, {Offset: math.MaxInt - 7}, {Offset: math.MinInt}} {
		if b, e := Write(h, []byte{7, 8}); b != nil || e != api.ErrArg {
			t.Error(h, b, e)
		}
	}
}

// P5.3: a checksum of 0 is written as 0, and data does not matter for it.
func TestWriteSum(t *testing.T) {
	h := Header{ID: 65535 - 17664 - 22 - 0x4011 - 0x0a00 - 1 - 0x0a00 - 2, TTL: 64, Proto: 17, Src: 0x0a000001, Dst: 0x0a000002}
	b, e := Write(h, []byte{7, 8})
	if e != api.OK || b[10] != 0 || b[11] != 0 || sum(b[:20]) != 65535 {
		t.Error(b, e)
	}
	for n := range 40 {
		h.ID -= 1 // the total length is 1 more
		if b, e := Write(h, some(n+3)); e != api.OK || b[10] != 0 || b[11] != 0 {
			t.Error(b, e)
		}
	}
	for id := range 1 << 16 {
		h.ID = uint16(id)
		if b, e := Write(h, nil); e != api.OK || sum(b) != 65535 || b[10] == 255 && b[11] == 255 {
			t.Error(b, e)
		}
	}
}

// P5.4: Hop takes 1 from the TTL, and Turn exchanges the addresses; all else, but for the checksum of a hop, stays.
func TestHopAndTurn(t *testing.T) {
	if b, e := Hop(example); !slices.Equal(b, []byte{69, 0, 0, 22, 0, 1, 0, 0, 63, 17, 103, 212, 10, 0, 0, 1, 10, 0, 0, 2, 7, 8}) || e != api.OK {
		t.Error(b, e)
	}
	if b, e := Turn(example); !slices.Equal(b, []byte{69, 0, 0, 22, 0, 1, 0, 0, 64, 17, 102, 212, 10, 0, 0, 2, 10, 0, 0, 1, 7, 8}) || e != api.OK {
		t.Error(b, e)
	}
	for _, h := range headers() {
		for _, n := range []int{8, 16, 0, 15, 1000} {
			if !rightBy(h, n) {
				continue
			}
			b, hopped, turned := packed(h, some(n)), h, h
			hopped.TTL--
			turned.Src, turned.Dst = h.Dst, h.Src
			for _, after := range []int{0, 1, 9, 70000} {
				long := slices.Concat(b, some(after))
				before := slices.Clone(long)
				if got, e := Hop(long); !slices.Equal(got, packed(hopped, some(n))) || e != api.OK {
					t.Error(h, n, after, got, e)
				}
				if got, e := Turn(long); !slices.Equal(got, packed(turned, some(n))) || e != api.OK {
					t.Error(h, n, after, got, e)
				}
				if !slices.Equal(long, before) {
					t.Error("the argument is modified:", long)
				}
			}
		}
	}
}

// P5.4: with a TTL of 0 or 1 there is no hop, after all errors of Read; a turn does not ask for it.
func TestHopTTL(t *testing.T) {
	for ttl := range 256 {
		h := Header{ID: 7, TTL: uint8(ttl), Proto: 1, Src: 1, Dst: 2}
		b := packed(h, some(5))
		got, e := Hop(b)
		if ttl <= 1 {
			if got != nil || e != ErrTTL {
				t.Error(ttl, got, e)
			}
		} else {
			h.TTL--
			if !slices.Equal(got, packed(h, some(5))) || e != api.OK {
				t.Error(ttl, got, e)
			}
		}
		if turned, e := Turn(b); len(turned) != 25 || turned[8] != byte(ttl) || e != api.OK {
			t.Error(ttl, turned, e)
		}
		b[11] ^= 1
		fails(t, b, ErrSum)
		b[11] ^= 1
		fails(t, b[:24], ErrTotal)
	}
}

// P5.4: a checksum of 65535 stays with a turn; a hop has the one that csum.Fix puts, also if it is 0.
func TestHopAndTurnSums(t *testing.T) {
	for ttl := 2; ttl < 256; ttl++ {
		h := Header{TTL: uint8(ttl), Src: 9, Dst: 70000}
		h.ID = 65535 - sum(slices.Replace(packed(h, nil), 10, 12, 0, 0))
		zero := packed(h, nil)
		full := slices.Replace(slices.Clone(zero), 10, 12, 255, 255)
		hopped, turned := h, h
		hopped.TTL--
		turned.Src, turned.Dst = h.Dst, h.Src
		want := packed(turned, nil)
		if got, e := Turn(zero); zero[10] != 0 || zero[11] != 0 || !slices.Equal(got, want) || e != api.OK {
			t.Error(ttl, got, e)
		}
		want[10], want[11] = 255, 255
		if got, e := Turn(full); !slices.Equal(got, want) || e != api.OK {
			t.Error(ttl, got, e)
		}
		for _, b := range [][]byte{zero, full} {
			if got, e := Hop(b); !slices.Equal(got, packed(hopped, nil)) || e != api.OK {
				t.Error(ttl, got, e)
			}
		}
		if ttl < 255 { // one hop before, so that the hop gets the checksum 0
			above := h
			above.TTL++
			if got, e := Hop(packed(above, nil)); !slices.Equal(got, zero) || e != api.OK {
				t.Error(ttl, got, e)
			}
		}
	}
}
