package csum

import (
	"slices"
	"testing"

	"baffle/api"
)

// with returns bytes in which the two from the index at on are a word.
func with(b []byte, at int, w uint16) []byte {
	b = slices.Clone(b)
	b[at], b[at+1] = byte(w>>8), byte(w)
	return b
}

// P2.5: what Fix returned is right, also if all other bytes are 0.
func TestFixedIsRight(t *testing.T) {
	for n := 2; n < 50; n++ {
		for at := 0; at+2 <= n; at += 2 {
			for _, b := range [][]byte{some(n, at), make([]byte, n), slices.Repeat([]byte{255}, n), with(make([]byte, n), at, 0x1234)} {
				got, e := Fix(b, at)
				if e != api.OK || len(got) != n || !Right(got) || Of(got) != 0 {
					t.Error(n, at, b, got, e)
				}
				if !slices.Equal(with(got, at, 0), with(b, at, 0)) {
					t.Error("other bytes are changed:", at, b, got)
				}
				if again, _ := Fix(got, at); !slices.Equal(again, got) {
					t.Error("it is fixed twice:", got, again)
				}
			}
		}
	}
}

// P2.5: if one word of right bytes becomes another one, they are no longer right, but for 0 and 65535.
func TestChangedIsWrong(t *testing.T) {
	right, _ := Fix(some(21, 5), 2)
	none, _ := Fix([]byte{1, 2, 0, 0, 0, 0}, 2)
	full, _ := Fix([]byte{1, 2, 0, 0, 255, 255}, 2)
	for _, b := range [][]byte{right, none, full} {
		for at := 0; at+2 <= len(b); at += 2 {
			old := split(b)[at/2]
			for w := range 1 << 16 {
				word := uint16(w)
				same := word == old || old%65535 == 0 && word%65535 == 0
				if Right(with(b, at, word)) != same {
					t.Error(at, old, word, !same)
				}
			}
		}
	}
	if Right([]byte{0, 0}) || !Right([]byte{255, 255}) {
		t.Error("bytes that are all 0 have the sum 0, so they are not right")
	}
}

// P2.5: the order of words does not matter; that of the bytes of one does.
func TestOrderOfWords(t *testing.T) {
	for n := 2; n < 40; n += 2 {
		b := some(n, n)
		var back []byte
		for i := n - 2; i >= 0; i -= 2 {
			back = append(back, b[i], b[i+1])
		}
		if Sum(back) != Sum(b) {
			t.Error(n, Sum(b), Sum(back))
		}
	}
	if Sum([]byte{1, 2}) == Sum([]byte{2, 1}) {
		t.Error("the bytes of a word are mixed up")
	}
}

// P2.5: the sum of bytes that are put together is that of the sums, if the first ones are even in number.
func TestSumsOfParts(t *testing.T) {
	for n := range 41 {
		b := some(n, n+100)
		for cut := 0; cut <= n; cut += 2 {
			if got := Join(Sum(b[:cut]), Sum(b[cut:])); got != Sum(b) {
				t.Error(n, cut, got, Sum(b))
			}
			if got := Over(Sum(b[:cut]), b[cut:]); got != Of(b) {
				t.Error(n, cut, got, Of(b))
			}
		}
	}
	if Join(Sum([]byte{1}), Sum([]byte{2})) == Sum([]byte{1, 2}) {
		t.Error("an odd number of bytes is put together as an even one")
	}
}

// P2.5: Update of a checksum is that of the bytes with the word replaced, as long as not all of these are 0.
func TestUpdatedIsOf(t *testing.T) {
	for _, b := range [][]byte{some(12, 1), some(13, 2), make([]byte, 12), make([]byte, 13), slices.Repeat([]byte{255}, 12), {7, 7}, {0, 0}, {255, 255}} {
		for at := 0; at+2 <= len(b); at += 2 {
			for _, w := range corners {
				changed := with(b, at, w)
				want := Of(changed)
				if Sum(changed) == 0 {
					want = 0 // the exception: it cannot be known that all bytes are 0
				}
				if got := Update(Of(b), split(b)[at/2], w); got != want {
					t.Error(b, at, w, got, want)
				}
			}
		}
	}
}

// P2.5: Update32 is the same for two words next to each other.
func TestUpdated32IsOf(t *testing.T) {
	b := some(17, 9)
	for at := 0; at+4 <= len(b); at += 2 {
		l := split(b)
		old := uint32(l[at/2])<<16 | uint32(l[at/2+1])
		for _, up := range corners {
			for _, low := range corners {
				changed := with(with(b, at, up), at+2, low)
				if got := Update32(Of(b), old, uint32(up)<<16|uint32(low)); got != Of(changed) {
					t.Error(at, up, low, got, Of(changed))
				}
			}
		}
	}
}
