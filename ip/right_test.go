package ip

import (
	"math"
	"math/big"
	"slices"
	"testing"
)

// rightBy says what the chapter says of a header and n bytes of data, with numbers that do not overflow.
func rightBy(h Header, n int) bool {
	together := new(big.Int).Add(big.NewInt(int64(h.Offset)), big.NewInt(int64(n)))
	length := new(big.Int).Add(big.NewInt(int64(20+len(h.Options))), big.NewInt(int64(n)))
	switch {
	case h.Offset < 0 || h.Offset > 65528 || h.Offset%8 != 0:
		return false
	case len(h.Options) > 40 || len(h.Options)%4 != 0:
		return false
	case n < 0 || length.Cmp(big.NewInt(65535)) > 0 || together.Cmp(big.NewInt(65515)) > 0:
		return false
	}
	return !h.MF || n%8 == 0 && n != 0
}

// offsets and counts are numbers around all borders, and some far from them.
var (
	offsets = []int{math.MinInt, math.MinInt + 8, -1 << 32, -65536, -16, -8, -7, -1, 0, 1, 2, 4, 7, 8, 9, 16, 1480, 32768, 65472, 65476, 65480, 65488, 65496, 65504, 65508, 65511, 65512, 65513, 65515, 65516, 65520, 65528, 65529, 65535, 65536, 131072, 1 << 32, 1<<32 + 8, math.MaxInt - 7, math.MaxInt}
	counts  = []int{math.MinInt, math.MinInt + 1, math.MinInt + 8, -1 << 32, -65528, -65515, -20, -8, -1, 0, 1, 2, 3, 4, 5, 7, 8, 9, 11, 15, 16, 20, 24, 1480, 65456, 65464, 65472, 65475, 65476, 65480, 65488, 65504, 65507, 65508, 65511, 65512, 65513, 65515, 65516, 65519, 65520, 65528, 65535, 65536, 1 << 32, 1<<32 + 8, math.MaxInt - 65535, math.MaxInt - 8, math.MaxInt - 7, math.MaxInt}
)

// P5.1: every condition holds or does not, together with all others.
func TestRightByItsConditions(t *testing.T) {
	for size := range 66 {
		options := slices.Repeat([]byte{1}, size)
		for _, offset := range offsets {
			for _, n := range counts {
				for _, more := range []bool{false, true} {
					h := Header{Offset: offset, MF: more, Options: options}
					if got := Right(h, n); got != rightBy(h, n) {
						t.Error(size, offset, n, more, got)
					}
				}
			}
		}
	}
}

// P5.1: what the document names, counted out.
func TestRight(t *testing.T) {
	for _, c := range []struct {
		options, offset, n int
		more, want         bool
	}{
		{0, 0, 0, false, true}, {4, 0, 0, false, true}, {40, 0, 0, false, true}, {44, 0, 0, false, false}, {41, 0, 0, false, false}, {1, 0, 0, false, false}, {2, 0, 0, false, false}, {3, 0, 0, false, false}, {39, 0, 0, false, false}, {80, 0, 0, false, false}, {256, 0, 0, false, false},
		{0, 0, -1, false, false}, {0, 8, -8, false, false}, {0, 0, 65515, false, true}, {0, 0, 65516, false, false}, {4, 0, 65511, false, true}, {4, 0, 65512, false, false}, {40, 0, 65475, false, true}, {40, 0, 65476, false, false},
		{0, -8, 8, false, false}, {0, -8, 0, false, false}, {0, 1, 0, false, false}, {0, 4, 4, false, false}, {0, 12, 0, false, false}, {0, 8, 0, false, true}, {0, 8, 5, false, true},
		{0, 65512, 0, false, true}, {0, 65512, 3, false, true}, {0, 65512, 4, false, false}, {0, 65520, 0, false, false}, {0, 65528, 0, false, false}, {0, 65528, 2, false, false}, {0, 65536, 0, false, false}, {0, 8, 65507, false, true}, {0, 8, 65508, false, false}, {40, 40, 65475, false, true}, {40, 48, 65475, false, false}, {40, 48, 65467, false, true},
		{0, 0, 0, true, false}, {0, 0, 7, true, false}, {0, 0, 8, true, true}, {0, 0, 9, true, false}, {0, 0, 12, true, false}, {0, 0, 65512, true, true}, {0, 0, 65515, true, false}, {0, 65504, 8, true, true}, {0, 65512, 8, true, false}, {0, 65512, 0, true, false}, {0, 0, -8, true, false},
	} {
		h := Header{Offset: c.offset, MF: c.more, Options: make([]byte, c.options)}
		if got := Right(h, c.n); got != c.want {
			t.Error(c, got)
		}
	}
}

// P5.1: what else a header says does not matter.
func TestRightAsksNoMore(t *testing.T) {
	for _, h := range []Header{{}, {TOS: 255}, {ID: 65535}, {DF: true}, {TTL: 255, Proto: 255}, {Src: math.MaxUint32}, {Dst: math.MaxUint32}, {Options: []byte{}}, {Options: []byte{255, 0, 9, 1}}, {DF: true, Offset: 8, Options: []byte{0, 0, 0, 1}}} {
		if !Right(h, 8) || Right(h, -1) || Right(h, 65516) {
			t.Error(h)
		}
		h.MF = true
		if !Right(h, 8) || Right(h, 9) || Right(h, 0) {
			t.Error(h)
		}
	}
}
