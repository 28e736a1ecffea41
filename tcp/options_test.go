package tcp

import (
	"encoding/binary"
	"math"
	"reflect"
	"slices"
	"testing"

	"baffle/api"
)

// nothing is what is known where there is no option.
func nothing() Known { return Known{Scale: -1} }

// alike reports whether as much is known; Blocks that are nil and Blocks that are empty are the same.
func alike(a, b Known) bool {
	if !slices.Equal(a.Blocks, b.Blocks) {
		return false
	}
	a.Blocks, b.Blocks = nil, nil
	return reflect.DeepEqual(a, b)
}

// parses checks what is known of some bytes.
func parses(t *testing.T, b []byte, want Known, e api.Errno) {
	t.Helper()
	room := append(slices.Clone(b), some(9)...)
	before := slices.Clone(room)
	got, f := Parse(room[:len(b)])
	if !alike(got, want) || f != e {
		t.Error(b, got, f, "want", want, e)
	}
	if !slices.Equal(room, before) {
		t.Error("the argument is modified:", room, before)
	}
}

// formats checks what the bytes of a Known are.
func formats(t *testing.T, k Known, want []byte, e api.Errno) {
	t.Helper()
	before := slices.Clone(k.Blocks)
	if b, f := Format(k); !slices.Equal(b, want) || f != e || e != api.OK && b != nil {
		t.Error(k, b, f, "want", want, e)
	}
	if !slices.Equal(k.Blocks, before) {
		t.Error("the argument is modified:", k, before)
	}
}

// lengths returns the right numbers of bytes of content, by the known kinds.
func lengths() map[uint8][]int {
	return map[uint8][]int{2: {2}, 3: {1}, 4: {0}, 5: {8, 16, 24, 32}, 8: {8}}
}

// add takes the content of an option with a right length into a Known, and reports whether it is right.
func add(k *Known, kind uint8, content []byte) bool {
	number := func(from int) uint32 { return binary.BigEndian.Uint32(content[from:]) }
	switch kind {
	case 2:
		k.MSS = 256*int(content[0]) + int(content[1])
		return k.MSS > 0
	case 3:
		k.Scale = int(content[0])
		return k.Scale < 15
	case 4:
		k.Selective = true
	case 5:
		for i := 0; i < len(content); i += 8 {
			k.Blocks = append(k.Blocks, [2]uint32{number(i), number(i + 4)})
		}
	case 8:
		k.Stamped, k.Stamp, k.Echo = true, number(0), number(4)
	}
	return true
}

// meant parses options as the chapter says, byte by byte.
func meant(b []byte) (Known, api.Errno) {
	if len(b) > 40 {
		return Known{}, api.ErrLong
	}
	k, seen := nothing(), map[uint8]bool{}
	for i := 0; i < len(b); {
		kind := b[i]
		if kind == 0 {
			break
		}
		if kind == 1 {
			i++
			continue
		}
		if i+1 == len(b) || b[i+1] < 2 || i+int(b[i+1]) > len(b) {
			return Known{}, ErrOption
		}
		content := b[i+2 : i+int(b[i+1])]
		if right, known := lengths()[kind]; known {
			if seen[kind] || !slices.Contains(right, len(content)) || !add(&k, kind, content) {
				return Known{}, ErrOption
			}
			seen[kind] = true
		}
		i += 2 + len(content)
	}
	return k, api.OK
}

// rightBy says what the chapter says of a Known.
func rightBy(k Known) bool {
	if !k.Stamped && (k.Stamp > 0 || k.Echo > 0) {
		return false
	}
	return !(k.MSS < 0 || k.MSS > 65535 || k.Scale < -1 || k.Scale > 14 || len(k.Blocks) > 4)
}

// formatted returns the bytes of a right Known, as many as they are.
func formatted(k Known) []byte {
	var b []byte
	if k.MSS > 0 {
		b = append(b, 2, 4, byte(k.MSS/256), byte(k.MSS%256))
	}
	if k.Scale >= 0 {
		b = append(b, 1, 3, 3, byte(k.Scale))
	}
	if k.Selective {
		b = append(b, 1, 1, 4, 2)
	}
	if k.Stamped {
		b = append(b, 1, 1, 8, 10)
		b = binary.BigEndian.AppendUint32(b, k.Stamp)
		b = binary.BigEndian.AppendUint32(b, k.Echo)
	}
	for i, block := range k.Blocks {
		if i == 0 {
			b = append(b, 1, 1, 5, byte(2+8*len(k.Blocks)))
		}
		b = binary.BigEndian.AppendUint32(b, block[0])
		b = binary.BigEndian.AppendUint32(b, block[1])
	}
	return b
}

// blocks returns some Blocks.
func blocks(n int) [][2]uint32 {
	var l [][2]uint32
	for i := range n {
		l = append(l, [2]uint32{uint32(i+1) * 0x12345679, uint32(i+1) * 0xfedcba97})
	}
	return l
}

// zeros returns n bytes 0, nops n bytes 1.
func zeros(n int) []byte { return make([]byte, n) }
func nops(n int) []byte  { return slices.Repeat([]byte{1}, n) }

// whole returns the bytes of an option with some content.
func whole(kind uint8, content ...byte) []byte {
	return append([]byte{kind, byte(len(content) + 2)}, content...)
}

// P8.4: the options that there are, in any order.
func TestParse(t *testing.T) {
	stamp := whole(8, 1, 2, 3, 4, 5, 6, 7, 8)
	for _, c := range []struct {
		b    []byte
		want Known
	}{
		{nil, nothing()}, {[]byte{}, nothing()}, {[]byte{0}, nothing()}, {zeros(40), nothing()}, {[]byte{1}, nothing()}, {nops(40), nothing()}, {[]byte{1, 1, 1, 0}, nothing()},
		{[]byte{2, 4, 5, 180, 1, 3, 3, 7}, Known{MSS: 1460, Scale: 7}}, {[]byte{3, 3, 7, 2, 4, 5, 180}, Known{MSS: 1460, Scale: 7}}, {[]byte{2, 4, 0, 1}, Known{MSS: 1, Scale: -1}}, {[]byte{2, 4, 1, 0}, Known{MSS: 256, Scale: -1}}, {[]byte{2, 4, 255, 255}, Known{MSS: 65535, Scale: -1}},
		{[]byte{3, 3, 0}, Known{Scale: 0}}, {[]byte{3, 3, 14}, Known{Scale: 14}}, {[]byte{4, 2}, Known{Scale: -1, Selective: true}}, {[]byte{1, 1, 4, 2}, Known{Scale: -1, Selective: true}},
		{stamp, Known{Scale: -1, Stamped: true, Stamp: 0x01020304, Echo: 0x05060708}}, {whole(8, zeros(8)...), Known{Scale: -1, Stamped: true}}, {whole(8, slices.Repeat([]byte{255}, 8)...), Known{Scale: -1, Stamped: true, Stamp: math.MaxUint32, Echo: math.MaxUint32}},
		{whole(5, 1, 2, 3, 4, 5, 6, 7, 8), Known{Scale: -1, Blocks: [][2]uint32{{0x01020304, 0x05060708}}}}, {whole(5, zeros(32)...), Known{Scale: -1, Blocks: make([][2]uint32, 4)}}, {whole(5, slices.Repeat([]byte{0, 0, 0, 9, 255, 255, 255, 255}, 3)...), Known{Scale: -1, Blocks: [][2]uint32{{9, math.MaxUint32}, {9, math.MaxUint32}, {9, math.MaxUint32}}}},
		{slices.Concat([]byte{4, 2}, stamp, []byte{1, 3, 3, 2, 2, 4, 2, 0}), Known{MSS: 512, Scale: 2, Selective: true, Stamped: true, Stamp: 0x01020304, Echo: 0x05060708}},
		{slices.Concat(whole(5, 9, 8, 7, 6, 5, 4, 3, 2, 1, 2, 3, 4, 5, 6, 7, 8), stamp, []byte{4, 2, 3, 3, 1, 2, 4, 9, 9}, nops(3)), Known{MSS: 2313, Scale: 1, Selective: true, Stamped: true, Stamp: 0x01020304, Echo: 0x05060708, Blocks: [][2]uint32{{0x09080706, 0x05040302}, {0x01020304, 0x05060708}}}},
		{[]byte{0, 2, 4}, nothing()}, {[]byte{0, 2, 4, 5, 180}, nothing()}, {[]byte{2, 4, 5, 180, 0, 3, 3, 7}, Known{MSS: 1460, Scale: -1}}, {[]byte{4, 2, 0, 4, 2}, Known{Scale: -1, Selective: true}}, {[]byte{4, 2, 0, 9}, Known{Scale: -1, Selective: true}}, {[]byte{4, 2, 0, 9, 0}, Known{Scale: -1, Selective: true}}, {[]byte{1, 0, 3, 3, 15}, nothing()}, {append(zeros(39), 2), nothing()}, {append([]byte{0}, nops(39)...), nothing()}, {append([]byte{0}, slices.Repeat([]byte{255}, 39)...), nothing()},
		{[]byte{6, 2}, nothing()}, {[]byte{7, 2, 7, 2, 9, 2}, nothing()}, {[]byte{255, 3, 0, 4, 2}, Known{Scale: -1, Selective: true}}, {[]byte{9, 4, 2, 4, 3, 3, 5}, Known{Scale: 5}}, {[]byte{9, 5, 0, 0, 0, 3, 3, 5, 9, 3, 0}, Known{Scale: 5}}, {whole(253, zeros(38)...), nothing()}, {append(whole(253, zeros(36)...), 4, 2), Known{Scale: -1, Selective: true}}, {append(whole(6, zeros(37)...), 1), nothing()},
	} {
		parses(t, c.b, c.want, api.OK)
	}
}

// P8.4: what is wrong.
func TestParseRefuses(t *testing.T) {
	for e, l := range map[api.Errno][][]byte{
		api.ErrLong: {zeros(41), nops(41), whole(253, zeros(39)...), append(whole(253, zeros(38)...), 0), nops(1 << 20), slices.Repeat([]byte{4, 2}, 128), whole(5, zeros(40)...), zeros(256 + 4)},
		ErrOption: {
			{2}, {3}, {4}, {5}, {8}, {6}, {255}, {1, 4}, {4, 2, 4}, append(nops(39), 9), // no length
			{4, 0}, {4, 1}, {9, 0}, {9, 1}, {9, 1, 1, 1}, {2, 0, 5, 180}, {1, 3, 1}, {4, 2, 9, 1}, append(nops(38), 9, 1), // a length below 2
			{9, 3}, {9, 255}, {2, 4, 5}, {2, 4}, {3, 3}, {4, 3}, {8, 10, 0, 0, 0, 0, 0, 0, 0}, {5, 10, 0, 0, 0, 0, 0, 0, 0}, {9, 5, 1, 1}, {1, 1, 9, 3}, {9, 41}, whole(5, zeros(32)...)[:33], append(nops(37), 9, 4, 0), // more bytes than there are
			{2, 2}, {2, 3, 1}, {2, 5, 1, 1, 1}, {3, 2}, {3, 4, 1, 1}, {4, 3, 0}, {5, 2}, {5, 9, 0, 0, 0, 0, 0, 0, 0}, {5, 11, 0, 0, 0, 0, 0, 0, 0, 0, 0}, {8, 2}, {8, 9, 0, 0, 0, 0, 0, 0, 0}, {8, 11, 0, 0, 0, 0, 0, 0, 0, 0, 0}, whole(8, zeros(16)...), whole(5, zeros(36)...), // a wrong length
			{2, 4, 0, 0}, {3, 3, 15}, {3, 3, 16}, {3, 3, 128}, {3, 3, 255}, {4, 2, 3, 3, 15}, // a wrong content
			{4, 2, 4, 2}, {2, 4, 5, 180, 2, 4, 5, 180}, {3, 3, 0, 3, 3, 0}, {3, 3, 7, 1, 3, 3, 8}, slices.Repeat(whole(8, zeros(8)...), 2), slices.Repeat(whole(5, zeros(8)...), 2), {4, 2, 1, 9, 2, 4, 2, 0}, // a known kind twice
		},
	} {
		for _, b := range l {
			parses(t, b, Known{}, e)
			if len(b) > 40 {
				continue
			}
			for _, front := range [][]byte{nops(3), {9, 3, 0}, {9, 2, 9, 2}} {
				if len(b)+len(front) > 40 {
					parses(t, slices.Concat(front, b), Known{}, api.ErrLong)
				} else {
					parses(t, slices.Concat(front, b), Known{}, e)
				}
			}
			parses(t, slices.Concat(b, nops(41-len(b))), Known{}, api.ErrLong)
			parses(t, append([]byte{0}, b...)[:min(len(b)+1, 40)], nothing(), api.OK)
		}
	}
}

// P8.4: each kind with each length, whatever its content, in each number of bytes.
func TestParseLengths(t *testing.T) {
	for _, kind := range []uint8{0, 1, 2, 3, 4, 5, 6, 7, 8, 9, 10, 127, 128, 253, 254, 255} {
		for _, length := range append(slices.Collect(func(yield func(int) bool) {
			for n := range 44 {
				if !yield(n) {
					return
				}
			}
		}), 127, 128, 130, 254, 255) {
			for n := range 43 {
				for _, content := range [][]byte{zeros(43), some(43), nops(43), slices.Repeat([]byte{255}, 43), append(zeros(1), nops(42)...)} {
					b := append([]byte{kind, byte(length)}, content...)[:n]
					want, e := meant(b)
					parses(t, b, want, e)
				}
			}
		}
	}
}

// P8.4: of each known kind just the right lengths are taken, and no others; of unknown ones, all.
func TestParseRightLengths(t *testing.T) {
	for kind := 2; kind < 256; kind++ {
		for n := range 39 {
			right, known := lengths()[uint8(kind)]
			_, e := Parse(whole(uint8(kind), nops(n)...))
			if want := !known || slices.Contains(right, n); want != (e == api.OK) || !want && e != ErrOption {
				t.Error(kind, n, e)
			}
		}
	}
}

// P8.4: each content of MSS and Scale, and the least and the greatest ones of the others.
func TestParseContent(t *testing.T) {
	for n := range 1 << 16 {
		got, e := Parse([]byte{2, 4, byte(n >> 8), byte(n)})
		if n == 0 && (e != ErrOption || !alike(got, Known{})) || n > 0 && (e != api.OK || !alike(got, Known{MSS: n, Scale: -1})) {
			t.Error(n, got, e)
		}
	}
	for n := range 256 {
		if n > 14 {
			parses(t, []byte{3, 3, byte(n)}, Known{}, ErrOption)
		} else {
			parses(t, []byte{3, 3, byte(n)}, Known{Scale: n}, api.OK)
		}
	}
	for at := range 8 {
		for _, x := range []byte{1, 127, 128, 255} {
			content := zeros(8)
			content[at] = x
			first, second := binary.BigEndian.Uint32(content), binary.BigEndian.Uint32(content[4:])
			parses(t, whole(8, content...), Known{Scale: -1, Stamped: true, Stamp: first, Echo: second}, api.OK)
			for n := range 4 {
				parses(t, whole(5, append(zeros(8*n), content...)...), Known{Scale: -1, Blocks: append(make([][2]uint32, n), [2]uint32{first, second})}, api.OK)
			}
		}
	}
}

// samples are right options, of known and of unknown kinds.
func samples() [][]byte {
	return [][]byte{{2, 4, 5, 180}, {2, 4, 0, 1}, {3, 3, 0}, {3, 3, 14}, {4, 2}, whole(5, some(8)...), whole(5, some(16)...), whole(5, zeros(8)...), whole(8, some(8)...), whole(8, zeros(8)...), {6, 2}, {7, 3, 4}, {9, 4, 2, 4}, {255, 5, 0, 0, 0}}
}

// P8.4: each known kind twice, with others between; unknown ones may be there as often as there is room.
func TestParseTwice(t *testing.T) {
	for _, first := range samples() {
		for _, between := range append(samples(), nil, nops(1), nops(2)) {
			for _, second := range samples() {
				b := slices.Concat(first, between, second)
				_, known := lengths()[first[0]]
				want, e := meant(b)
				if parses(t, b, want, e); known && first[0] == second[0] && len(b) <= 40 && e != ErrOption {
					t.Error("the test's own parser:", b, want, e)
				}
			}
		}
	}
	for _, b := range samples() { // a kind behind the end is not there twice
		want, _ := meant(b)
		parses(t, slices.Concat(b, []byte{0}, b), want, api.OK)
	}
}

// P8.4: all short bytes that mean something.
func TestParseShort(t *testing.T) {
	var try func(b []byte)
	try = func(b []byte) {
		want, e := meant(b)
		if got, f := Parse(b); !alike(got, want) || f != e {
			t.Error(b, got, f, want, e)
		}
		if len(b) < 6 {
			for _, x := range []byte{0, 1, 2, 3, 4, 5, 8, 9, 15} {
				try(append(slices.Clip(b), x))
			}
		}
	}
	try(nil)
}

// P8.4: bytes 1 between all options, and at both ends, change nothing.
func TestParseNops(t *testing.T) {
	l := [][]byte{{2, 4, 5, 180}, {3, 3, 9}, {4, 2}, whole(8, some(8)...), {9, 4, 0, 1}}
	want, _ := meant(slices.Concat(l...))
	for a := range 3 {
		for b := range 4 {
			for c := range 4 {
				parses(t, slices.Concat(nops(a), l[0], nops(b), l[1], nops(c), l[2], nops(b), l[3], nops(a), l[4], nops(c)), want, api.OK)
			}
		}
	}
}

// knowns calls a function with each choice of some values, right and not.
func knowns(f func(k Known)) {
	for _, mss := range []int{math.MinInt, -65536, -1, 0, 1, 255, 256, 1460, 65534, 65535, 65536, 65537, 1<<32 + 1, math.MaxInt} {
		for _, scale := range []int{math.MinInt, -256, -2, -1, 0, 1, 13, 14, 15, 255, 256, 1 << 32, math.MaxInt} {
			for choice := range 16 {
				k := Known{MSS: mss, Scale: scale, Selective: choice&1 > 0, Stamped: choice&2 > 0}
				if choice&4 > 0 {
					k.Stamp = 0x80000001
				}
				if choice&8 > 0 {
					k.Echo = 0x01020304
				}
				for n := range 6 {
					k.Blocks = blocks(n)
					f(k)
				}
			}
		}
	}
}

// P8.4: every condition holds or does not, together with all others.
func TestRightByItsConditions(t *testing.T) {
	knowns(func(k Known) {
		if got := Right(k); got != rightBy(k) {
			t.Error(k, got)
		}
	})
}

// P8.4: what the chapter names, counted out.
func TestRight(t *testing.T) {
	for _, c := range []struct {
		k    Known
		want bool
	}{
		{Known{}, true}, {nothing(), true}, {Known{MSS: -1}, false}, {Known{MSS: 65535}, true}, {Known{MSS: 65536}, false}, {Known{Scale: -2}, false}, {Known{Scale: 14}, true}, {Known{Scale: 15}, false},
		{Known{Stamp: 1}, false}, {Known{Echo: 1}, false}, {Known{Stamp: 1, Echo: 1}, false}, {Known{Stamped: true}, true}, {Known{Stamped: true, Stamp: 1}, true}, {Known{Stamped: true, Echo: math.MaxUint32}, true},
		{Known{Blocks: [][2]uint32{}}, true}, {Known{Blocks: blocks(4)}, true}, {Known{Blocks: blocks(5)}, false}, {Known{Blocks: make([][2]uint32, 1000)}, false}, {Known{Blocks: [][2]uint32{{5, 4}}}, true},
		{Known{MSS: 65535, Scale: 14, Selective: true, Stamped: true, Stamp: math.MaxUint32, Echo: math.MaxUint32, Blocks: blocks(4)}, true}, // though its bytes are too many
	} {
		if got := Right(c.k); got != c.want {
			t.Error(c, got)
		}
	}
}

// P8.5: the bytes of the chapter.
func TestFormat(t *testing.T) {
	for _, c := range []struct {
		k    Known
		want []byte
	}{
		{nothing(), nil}, {Known{Scale: -1, Blocks: [][2]uint32{}}, nil}, {Known{}, []byte{1, 3, 3, 0}}, {Known{MSS: 1460, Scale: 7}, []byte{2, 4, 5, 180, 1, 3, 3, 7}}, {Known{MSS: 1, Scale: -1}, []byte{2, 4, 0, 1}}, {Known{MSS: 65535, Scale: 14}, []byte{2, 4, 255, 255, 1, 3, 3, 14}},
		{Known{Scale: -1, Selective: true}, []byte{1, 1, 4, 2}}, {Known{Scale: -1, Stamped: true}, []byte{1, 1, 8, 10, 0, 0, 0, 0, 0, 0, 0, 0}}, {Known{Scale: -1, Stamped: true, Stamp: 0x01020304, Echo: 0x05060708}, []byte{1, 1, 8, 10, 1, 2, 3, 4, 5, 6, 7, 8}},
		{Known{Scale: -1, Blocks: [][2]uint32{{0x01020304, 0x05060708}}}, []byte{1, 1, 5, 10, 1, 2, 3, 4, 5, 6, 7, 8}}, {Known{Scale: -1, Blocks: make([][2]uint32, 4)}, append([]byte{1, 1, 5, 34}, zeros(32)...)},
		{Known{MSS: 1460, Scale: 2, Selective: true, Stamped: true, Stamp: 9, Echo: 8, Blocks: [][2]uint32{{7, 6}}}, []byte{2, 4, 5, 180, 1, 3, 3, 2, 1, 1, 4, 2, 1, 1, 8, 10, 0, 0, 0, 9, 0, 0, 0, 8, 1, 1, 5, 10, 0, 0, 0, 7, 0, 0, 0, 6}},
	} {
		formats(t, c.k, c.want, api.OK)
	}
}

// P8.5: not right comes before too long; 40 bytes are not too many, 44 are.
func TestFormatAll(t *testing.T) {
	seen := map[int]int{}
	knowns(func(k Known) {
		b := formatted(k)
		switch {
		case !rightBy(k):
			formats(t, k, nil, api.ErrArg)
		case len(b) > 40:
			formats(t, k, nil, api.ErrLong)
			seen[len(b)]++
		default:
			formats(t, k, b, api.OK)
			seen[len(b)]++
		}
	})
	for n := 0; n <= 60; n += 4 {
		if seen[n] == 0 {
			t.Error("no options with", n, "bytes")
		}
	}
	for _, c := range []struct {
		k Known
		n int
	}{
		{Known{MSS: 1, Scale: -1, Blocks: blocks(4)}, 40}, {Known{Scale: 0, Blocks: blocks(4)}, 40}, {Known{Scale: -1, Selective: true, Blocks: blocks(4)}, 40}, {Known{Scale: -1, Stamped: true, Blocks: blocks(3)}, 40}, {Known{MSS: 1, Scale: 1, Selective: true, Blocks: blocks(3)}, 40}, {Known{MSS: 1, Scale: 1, Selective: true, Stamped: true, Blocks: blocks(1)}, 36},
		{Known{MSS: 1, Scale: 0, Blocks: blocks(4)}, 44}, {Known{Scale: -1, Stamped: true, Blocks: blocks(4)}, 48}, {Known{MSS: 1, Scale: 1, Selective: true, Stamped: true, Blocks: blocks(2)}, 44}, {Known{MSS: 1, Scale: 1, Selective: true, Stamped: true, Blocks: blocks(4)}, 60},
	} {
		if b, e := Format(c.k); c.n <= 40 && (len(b) != c.n || e != api.OK) || c.n > 40 && (b != nil || e != api.ErrLong) {
			t.Error(c, b, e)
		}
	}
	for _, spoil := range []func(k *Known){func(k *Known) { k.MSS = -1 }, func(k *Known) { k.MSS = 65536 }, func(k *Known) { k.Scale = -2 }, func(k *Known) { k.Scale = 15 }, func(k *Known) { k.Stamped = false }, func(k *Known) { k.Blocks = blocks(5) }, func(k *Known) { k.Blocks = make([][2]uint32, 1<<16) }} {
		k := Known{MSS: 9, Scale: 9, Selective: true, Stamped: true, Stamp: 9, Blocks: blocks(4)}
		formats(t, k, nil, api.ErrLong)
		spoil(&k)
		formats(t, k, nil, api.ErrArg)
	}
}
