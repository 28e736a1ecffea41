package csum

import (
	"math"
	"slices"
	"testing"

	"baffle/api"
)

// corners are words at which carries begin and end.
var corners = []uint16{0, 1, 2, 127, 128, 255, 256, 257, 258, 0x7ffe, 0x7fff, 0x8000, 0x8001, 0xfeff, 0xff00, 0xfffd, 0xfffe, 0xffff}

// carried adds up words with an end-around carry, which says the same as to fold does, in another way.
func carried(l ...uint16) uint16 {
	s := uint32(0)
	for _, w := range l {
		s += uint32(w)
		if s > 65535 {
			s -= 65535
		}
	}
	return uint16(s)
}

// split returns the words of some bytes.
func split(b []byte) []uint16 {
	l := make([]uint16, (len(b)+1)/2)
	for i, x := range b {
		l[i/2] += uint16(x) << (8 * (1 - i%2))
	}
	return l
}

// some returns n bytes of which no two words next to each other are equal; other seeds give others.
func some(n, seed int) []byte {
	b := make([]byte, n)
	x := uint32(seed)*2654435761 + 12345
	for i := range b {
		x = x*1664525 + 1013904223
		b[i] = byte(x >> 24)
	}
	return b
}

// summed checks all that is said of the sum of some bytes.
func summed(t *testing.T, b []byte, want uint16) {
	t.Helper()
	before := slices.Clone(b)
	if s, c, right := Sum(b), Of(b), Right(b); s != want || c != 65535-want || right != (want == 65535) {
		t.Errorf("%d bytes: Sum %d, Of %d, Right %v; want %d", len(b), s, c, right, want)
	}
	if !slices.Equal(b, before) {
		t.Error("the argument is modified:", b)
	}
}

// P2.1: words have their first byte as the upper one; the last of an odd number of bytes has a lower byte 0.
func TestSum(t *testing.T) {
	for _, c := range []struct {
		b    []byte
		want uint16
	}{
		{nil, 0}, {[]byte{}, 0}, {[]byte{0}, 0}, {[]byte{0, 0}, 0}, {make([]byte, 1001), 0}, {make([]byte, 65535), 0},
		{[]byte{1}, 256}, {[]byte{255}, 65280}, {[]byte{0, 1}, 1}, {[]byte{1, 0}, 256}, {[]byte{1, 2}, 258},
		{[]byte{1, 2, 3}, 1026}, {[]byte{1, 2, 3, 4}, 1030}, {[]byte{0, 0, 0, 0, 9}, 2304}, {[]byte{0, 0, 0, 0, 0, 9}, 9},
		{[]byte{255, 255}, 65535}, {[]byte{255, 254, 0, 1}, 65535}, {[]byte{255, 255, 255, 255}, 65535}, {[]byte{255, 255, 0, 0}, 65535}, {[]byte{128, 0, 127, 255}, 65535}, {[]byte{255, 0, 0, 255}, 65535},
		{[]byte{255, 255, 0, 1}, 1}, {[]byte{255, 254, 0, 2}, 1}, {[]byte{128, 0, 128, 0}, 1}, {[]byte{255, 255, 255, 255, 0, 1}, 1},
		{[]byte{255, 255, 255, 254}, 65534}, {[]byte{255, 255, 1}, 256}, {[]byte{255, 0, 1}, 1}, {[]byte{255, 255, 255}, 65280},
	} {
		summed(t, c.b, c.want)
	}
}

// P2.1: bytes of every number are summed as their words are.
func TestSumOfMany(t *testing.T) {
	for n := range 700 {
		b := some(n, n)
		summed(t, b, carried(split(b)...))
	}
	for _, n := range []int{1499, 1500, 65534, 65535, 65536, 131071, 131072, 131080, 300001} {
		b := some(n, n)
		summed(t, b, carried(split(b)...))
	}
}

// P2.1: no carry is lost, however many words there are: the words of these have more than 2^32 together.
func TestSumIsWide(t *testing.T) {
	b := slices.Repeat([]byte{255}, 2*65540)
	summed(t, b, 65535)
	summed(t, append(b, 0, 1), 1)
	summed(t, append(b, 3), 768)
}

// P2.1: what lies behind a slice is none of its bytes, not even behind an odd number of them.
func TestSumReadsNoMore(t *testing.T) {
	room := []byte{1, 2, 3, 255, 255}
	summed(t, room[:3], 1026)
	summed(t, room[:1], 256)
	summed(t, room[:0], 0)
	if !slices.Equal(room, []byte{1, 2, 3, 255, 255}) {
		t.Error(room)
	}
}

// The words of bytes may be left early, and gone through again.
func TestWordsAreLeft(t *testing.T) {
	l := words([]byte{1, 2, 3, 4, 5})
	for w := range l {
		if w != 258 {
			t.Error(w)
		}
		break
	}
	if got := slices.Collect(l); !slices.Equal(got, []uint16{258, 772, 1280}) {
		t.Error(got)
	}
}

// P2.1: Join adds up and folds; no numbers make 0.
func TestJoin(t *testing.T) {
	for _, c := range []struct {
		l    []uint16
		want uint16
	}{
		{nil, 0}, {[]uint16{}, 0}, {[]uint16{0}, 0}, {[]uint16{0, 0, 0}, 0}, {[]uint16{7}, 7}, {[]uint16{65535}, 65535}, {[]uint16{1, 2, 3}, 6},
		{[]uint16{65535, 0}, 65535}, {[]uint16{65534, 1}, 65535}, {[]uint16{65535, 65535}, 65535}, {[]uint16{65535, 65535, 65535}, 65535},
		{[]uint16{65535, 1}, 1}, {[]uint16{65534, 2}, 1}, {[]uint16{32768, 32768}, 1}, {[]uint16{65535, 65534}, 65534},
	} {
		before := slices.Clone(c.l)
		if s := Join(c.l...); s != c.want || !slices.Equal(c.l, before) {
			t.Error(before, s, c.want, c.l)
		}
	}
	for _, a := range corners {
		if s := Join(a); s != a {
			t.Error(a, s)
		}
		for _, b := range corners {
			for _, c := range corners {
				if s := Join(a, b, c); s != carried(a, b, c) {
					t.Error(a, b, c, s)
				}
			}
		}
	}
	many := slices.Repeat([]uint16{65535}, 65540)
	if s := Join(append(many, 1)...); s != 1 {
		t.Error("a carry is lost:", s)
	}
}

// P2.2: Fix puts the checksum that the bytes have without the two at the index, whatever these were.
func TestFix(t *testing.T) {
	for _, c := range []struct {
		b    []byte
		at   int
		want []byte
	}{
		{[]byte{69, 0, 0, 0, 0, 0}, 2, []byte{69, 0, 186, 255, 0, 0}},
		{[]byte{69, 0, 77, 88, 0, 0}, 2, []byte{69, 0, 186, 255, 0, 0}},
		{[]byte{9, 9}, 0, []byte{255, 255}},
		{[]byte{0, 0}, 0, []byte{255, 255}},
		{[]byte{9, 9, 0}, 0, []byte{255, 255, 0}},
		{[]byte{0, 0, 1}, 0, []byte{254, 255, 1}},
		{[]byte{1, 2, 0, 0}, 2, []byte{1, 2, 254, 253}},
		{[]byte{1, 2, 9, 9, 3}, 2, []byte{1, 2, 251, 253, 3}},
		{[]byte{255, 255, 9, 9}, 2, []byte{255, 255, 0, 0}},
		{[]byte{255, 255, 9, 9, 0, 1}, 2, []byte{255, 255, 255, 254, 0, 1}},
		{make([]byte, 8), 6, []byte{0, 0, 0, 0, 0, 0, 255, 255}},
	} {
		before := slices.Clone(c.b)
		got, e := Fix(c.b, c.at)
		if !slices.Equal(got, c.want) || e != api.OK || !slices.Equal(c.b, before) {
			t.Error(before, c.at, got, e, c.b)
		}
	}
}

// P2.2: an index that is less than 0 or odd, or has fewer than two bytes from it on, is not right.
func TestFixRefuses(t *testing.T) {
	for n := range 12 {
		for at := -5; at < 16; at++ {
			got, e := Fix(some(n, at), at)
			if at >= 0 && at%2 == 0 && at+2 <= n {
				if len(got) != n || e != api.OK {
					t.Error(n, at, got, e)
				}
			} else if len(got) != 0 || e != api.ErrArg {
				t.Error(n, at, got, e)
			}
		}
	}
	for _, at := range []int{math.MinInt, math.MinInt + 1, -1 << 32, 1 << 32, 1 << 62, math.MaxInt - 3, math.MaxInt - 2, math.MaxInt - 1, math.MaxInt} {
		for _, b := range [][]byte{nil, {1}, {1, 2}, {1, 2, 3, 4}} {
			if got, e := Fix(b, at); len(got) != 0 || e != api.ErrArg {
				t.Error(b, at, got, e)
			}
		}
	}
	long := make([]byte, 65535)
	if got, e := Fix(long, 65532); len(got) != 65535 || e != api.OK {
		t.Error(len(got), e)
	}
	if got, e := Fix(long, 65534); len(got) != 0 || e != api.ErrArg {
		t.Error(len(got), e)
	}
}

// P2.2: what Fix returns is new memory, and the argument and what lies behind it stay as they are.
func TestFixShares(t *testing.T) {
	room := []byte{1, 2, 3, 4, 5, 6, 7, 8}
	got, _ := Fix(room[:5], 2)
	again, _ := Fix(room[:5], 2)
	clear(got)
	_ = append(got, 99, 99)
	if !slices.Equal(room, []byte{1, 2, 3, 4, 5, 6, 7, 8}) {
		t.Error(room)
	}
	if !slices.Equal(again, []byte{1, 2, 249, 253, 5}) {
		t.Error(again)
	}
}
