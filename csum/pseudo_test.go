package csum

import (
	"math"
	"slices"
	"testing"

	"baffle/api"
)

// P2.4: the six words of a pseudo header are added up and folded.
func TestPseudo(t *testing.T) {
	for _, c := range []struct {
		src, dst uint32
		proto    uint8
		length   int
		want     uint16
	}{
		{0x0a000001, 0x0a000002, 17, 8, 5148}, {0, 0, 0, 0, 0},
		{0x12340000, 0, 0, 0, 0x1234}, {0x00001234, 0, 0, 0, 0x1234}, {0, 0x12340000, 0, 0, 0x1234}, {0, 0x00001234, 0, 0, 0x1234}, {0, 0, 6, 0, 6}, {0, 0, 0, 0x1234, 0x1234},
		{0, 0, 255, 0, 255}, {0, 0, 0, 65535, 65535}, {0, 0, 1, 65535, 1}, {0, 0, 1, 65534, 65535}, {0xffffffff, 0xffffffff, 255, 65535, 255}, {0xffffffff, 0, 0, 0, 65535}, {0xffff0001, 0, 0, 0, 1}, {0, 0x80008000, 0, 0, 1},
		{0x01020304, 0x05060708, 6, 20, 4142},
	} {
		if got, e := Pseudo(c.src, c.dst, c.proto, c.length); got != c.want || e != api.OK {
			t.Error(c, got, e)
		}
	}
	for i, a := range corners {
		for j, b := range corners {
			c, d := corners[(i+j+5)%len(corners)], corners[(3*i+7*j)%len(corners)]
			proto, length := uint8(j*17), int(corners[(i+11*j)%len(corners)])
			want := carried(a, b, c, d, uint16(proto), uint16(length))
			if got, e := Pseudo(uint32(a)<<16|uint32(b), uint32(c)<<16|uint32(d), proto, length); got != want || e != api.OK {
				t.Error(a, b, c, d, proto, length, got, e)
			}
		}
	}
}

// P2.4: a length is from 0 to 65535.
func TestPseudoRefuses(t *testing.T) {
	for _, length := range []int{-1, -2, -65535, -65536, 65536, 65544, 131072, 1 << 32, 1<<32 + 8, -1 << 32, math.MaxInt, math.MinInt} {
		if got, e := Pseudo(0x0a000001, 0x0a000002, 17, length); got != 0 || e != api.ErrArg {
			t.Error(length, got, e)
		}
	}
	for _, length := range []int{0, 1, 65534, 65535} {
		if got, e := Pseudo(0, 0, 0, length); int(got) != length || e != api.OK {
			t.Error(length, got, e)
		}
	}
}

// P2.4: Over is 65535 less the folded sum of both parts.
func TestOver(t *testing.T) {
	for _, c := range []struct {
		pseudo uint16
		b      []byte
		want   uint16
	}{
		{0, nil, 65535}, {0, []byte{0, 0, 0}, 65535}, {5148, nil, 60387}, {5148, []byte{1, 2, 3, 4}, 59357}, {5148, []byte{1, 2, 3}, 59361}, {0, []byte{1, 2}, 65277},
		{65535, nil, 0}, {65535, []byte{0}, 0}, {65535, []byte{0, 1}, 65534}, {65535, []byte{255, 255}, 0}, {65534, []byte{0, 1}, 0}, {1, []byte{255, 254}, 0}, {1, []byte{255, 255}, 65534}, {0, []byte{255, 255}, 0},
	} {
		before := slices.Clone(c.b)
		if got := Over(c.pseudo, c.b); got != c.want || !slices.Equal(c.b, before) {
			t.Error(c, got)
		}
	}
	for _, pseudo := range corners {
		for n := range 40 {
			b := some(n, int(pseudo))
			if got, want := Over(pseudo, b), 65535-carried(append(split(b), pseudo)...); got != want {
				t.Error(pseudo, n, got, want)
			}
		}
	}
	room := []byte{1, 2, 3, 255}
	if got := Over(5148, room[:3]); got != 59361 {
		t.Error("more is read than there is:", got)
	}
}

// P2.4: a checksum that is put in makes both parts right together, whether or not it is replaced by Never.
func TestOverOfItself(t *testing.T) {
	for n := 8; n < 60; n++ {
		b := some(n, n)
		b[6], b[7] = 0, 0
		pseudo, _ := Pseudo(0x0a000001, 0x08080808, 17, n)
		check := Over(pseudo, b)
		for _, c := range []uint16{check, Never(check)} {
			b[6], b[7] = byte(c>>8), byte(c)
			if got := Over(pseudo, b); got != 0 {
				t.Error(n, c, got)
			}
		}
	}
}

// P2.4: Never replaces 0 by 65535, and nothing else.
func TestNever(t *testing.T) {
	if got := Never(0); got != 65535 {
		t.Error(got)
	}
	for check := uint16(1); check != 0; check++ {
		if got := Never(check); got != check {
			t.Error(check, got)
		}
	}
}
