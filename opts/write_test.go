package opts

import (
	"math/rand"
	"slices"
	"testing"

	"baffle/api"
)

// bytesOf returns the bytes of options, right or not, without bytes after them.
func bytesOf(l []Option) []byte {
	var b []byte
	for _, o := range l {
		b = append(b, o.Kind)
		if o.Kind != 1 {
			b = append(append(b, byte(len(o.Data)+2)), o.Data...)
		}
	}
	return b
}

// one returns a right option of a kind.
func one(r *rand.Rand, kind uint8) Option {
	size, front := 4, []byte{4}
	switch kind {
	case 1:
		return Option{Kind: 1}
	case 148:
		return Option{148, []byte{byte(r.Uint32()), byte(r.Uint32())}}
	case 7, 131, 137:
	case 68:
		f := []byte{0, 1, 3}[r.Intn(3)]
		if f > 0 {
			size = 8
		}
		front = []byte{5, f | byte(r.Intn(16)<<4)}
	default:
		o := Option{kind, make([]byte, r.Intn(9))}
		r.Read(o.Data)
		return o
	}
	n := r.Intn(3)
	if r.Intn(9) == 0 {
		n = r.Intn((38-len(front))/size + 1)
	}
	front[0] += byte(size * r.Intn(n+1))
	b := make([]byte, n*size)
	r.Read(b)
	return Option{kind, append(front, b...)}
}

// random returns options that are right, none of which excludes another one, in at most 40 bytes.
func random(r *rand.Rand) []Option {
	var l []Option
	for range r.Intn(12) {
		kind := slices.Concat(special, special, plain)[1+r.Intn(2*len(special)+len(plain)-1)]
		if kind == 0 || slices.ContainsFunc(l, func(o Option) bool { return exclude(o.Kind, kind) }) {
			continue
		}
		if o := one(r, kind); len(bytesOf(append(slices.Clip(l), o))) <= 40 {
			l = append(l, o)
		}
	}
	return l
}

// copied returns a copy of options.
func copied(l []Option) []Option {
	other := slices.Clone(l)
	for i, o := range l {
		other[i].Data = slices.Clone(o.Data)
	}
	return other
}

// writes checks what is written of options, and that they stay as they are.
func writes(t *testing.T, l []Option, want []byte, e api.Errno) {
	t.Helper()
	before := copied(l)
	b, f := Write(l)
	if !slices.Equal(b, want) || f != e || e != api.OK && b != nil {
		t.Error(l, b, f, "want", want, e)
	}
	if !slices.EqualFunc(l, before, same) {
		t.Error("the argument is modified:", l, before)
	}
}

// P6.3: the bytes of options, and as many bytes 0 as make them a multiple of 4.
func TestWrite(t *testing.T) {
	nop := Option{Kind: 1}
	for _, c := range []struct {
		l    []Option
		want []byte
	}{
		{nil, nil}, {[]Option{}, nil}, {[]Option{nop}, []byte{1, 0, 0, 0}}, {[]Option{nop, nop}, []byte{1, 1, 0, 0}}, {[]Option{nop, nop, {1, []byte{}}}, []byte{1, 1, 1, 0}}, {slices.Repeat([]Option{nop}, 4), nops(4)}, {slices.Repeat([]Option{nop}, 5), join(nops(5), zeros(3))}, {slices.Repeat([]Option{nop}, 40), nops(40)}, {slices.Repeat([]Option{nop}, 37), join(nops(37), zeros(3))},
		{[]Option{nop, {7, []byte{4, 0, 0, 0, 0}}}, []byte{1, 7, 7, 4, 0, 0, 0, 0}}, {[]Option{{7, []byte{8, 10, 0, 0, 1}}}, []byte{7, 7, 8, 10, 0, 0, 1, 0}}, {[]Option{nop, {7, []byte{8, 10, 0, 0, 1}}}, []byte{1, 7, 7, 8, 10, 0, 0, 1}},
		{[]Option{{5, nil}}, []byte{5, 2, 0, 0}}, {[]Option{{5, nil}, nop, {255, []byte{9, 0}}}, []byte{5, 2, 1, 255, 4, 9, 0, 0}}, {[]Option{{148, []byte{0, 0}}}, []byte{148, 4, 0, 0}}, {[]Option{{148, []byte{3, 4}}, {148, []byte{3, 4}}}, []byte{148, 4, 3, 4, 148, 4, 3, 4}},
		{[]Option{{68, []byte{5, 1}}, {137, []byte{4}}, {7, []byte{4}}, nop}, []byte{68, 4, 5, 1, 137, 3, 4, 7, 3, 4, 1, 0}},
		{[]Option{{5, some(38)}}, whole(5, 38)}, {[]Option{{5, some(37)}}, join(whole(5, 37), zeros(1))}, {[]Option{{5, some(35)}}, join(whole(5, 35), zeros(3))}, {[]Option{{5, some(34)}}, whole(5, 34)}, {[]Option{{7, data(36, 40)}}, join(data(36, 7, 39, 40), zeros(1))}, {[]Option{{68, data(36, 41, 0)}}, data(36, 68, 40, 41, 0)},
	} {
		writes(t, c.l, c.want, api.OK)
	}
	for n := range 39 {
		b := whole(200, n)
		writes(t, []Option{{200, some(n)}}, join(b, zeros((4-len(b)%4)%4)), api.OK)
	}
}

// P6.3: 40 bytes are written, 41 are not, bytes 0 after them do not count.
func TestWriteLong(t *testing.T) {
	for n := 30; n < 50; n++ {
		for _, front := range [][]Option{nil, {{5, some(10)}}, {{7, data(20, 24)}}, {{5, some(24)}, {148, []byte{1, 2}}}} {
			l := slices.Clone(front)
			for len(bytesOf(l)) < n {
				l = append(l, Option{Kind: 1})
			}
			b := bytesOf(l)
			if n > 40 {
				writes(t, l, nil, api.ErrLong)
			} else {
				writes(t, l, join(b, zeros((4-len(b)%4)%4)), api.OK)
			}
		}
	}
	for _, l := range [][]Option{{{5, some(38)}, {Kind: 1}}, {{Kind: 1}, {5, some(38)}}, {{5, some(38)}, {5, some(38)}}, {{5, some(30)}, {6, some(30)}}, {{5, some(37)}, {5, nil}}, {{7, data(36, 4)}, {5, nil}}, {{7, data(36, 4)}, {131, data(36, 4)}, {68, data(36, 5, 0)}}, slices.Repeat([]Option{{Kind: 1}}, 100000), slices.Repeat([]Option{{5, nil}}, 128), slices.Repeat([]Option{{5, some(2)}}, 64)} {
		writes(t, l, nil, api.ErrLong)
	}
}

// P6.3: an option that is not right is ErrArg, wherever it is, and whatever else is wrong.
func TestWriteNotRight(t *testing.T) {
	wrong := []Option{{}, {Kind: 0, Data: []byte{4}}, {1, []byte{0}}, {1, some(38)}, {5, some(39)}, {5, some(256)}, {5, some(294)}, {5, some(70000)}, {Kind: 7}, {7, []byte{5}}, {7, []byte{8}}, {7, data(3, 4)}, {7, data(40, 4)}, {131, data(4, 12)}, {137, data(4, 6)}, {Kind: 68}, {68, []byte{5}}, {68, []byte{5, 2}}, {68, data(4, 5, 1)}, {Kind: 148}, {148, []byte{1}}, {148, []byte{1, 2, 3}}}
	for _, o := range wrong {
		for _, l := range [][]Option{nil, {{Kind: 1}}, {{7, []byte{4}}}, {{7, []byte{4}}, {7, []byte{4}}}, {{131, []byte{4}}, {137, []byte{4}}}, {{5, some(38)}, {Kind: 1}}, slices.Repeat([]Option{{5, some(38)}}, 9), {{68, data(36, 5, 0)}, {68, data(36, 5, 0)}}} {
			writes(t, append(slices.Clip(l), o), nil, api.ErrArg)
			writes(t, append([]Option{o}, l...), nil, api.ErrArg)
			writes(t, slices.Concat(l, []Option{o}, l), nil, api.ErrArg)
		}
	}
}

// P6.3: of each pair of kinds one excludes the other one, or not; this comes before too many bytes.
func TestWritePairs(t *testing.T) {
	r := rand.New(rand.NewSource(63))
	for _, a := range slices.Concat(special, plain)[1:] {
		for _, b := range slices.Concat(special, plain)[1:] {
			for range 20 {
				x, y := one(r, a), one(r, b)
				between := slices.Repeat([]Option{{Kind: 1}}, r.Intn(3))
				l := slices.Concat([]Option{x}, between, []Option{y})
				long := slices.Concat(l[:1], []Option{{9, some(38)}, {9, some(38)}}, l[1:])
				if exclude(a, b) {
					writes(t, l, nil, ErrTwice)
					writes(t, long, nil, ErrTwice)
				} else if want := bytesOf(l); len(want) > 40 {
					writes(t, l, nil, api.ErrLong)
				} else {
					writes(t, l, join(want, zeros(-len(want)&3)), api.OK)
					writes(t, long, nil, api.ErrLong)
				}
			}
		}
	}
	for _, l := range [][]Option{{{7, data(36, 4)}, {7, data(36, 40)}}, {{131, data(36, 4)}, {137, data(36, 4)}}, {{68, data(36, 5, 0)}, {68, data(32, 5, 1)}}, {{5, some(38)}, {5, some(38)}, {137, []byte{4}}, {5, some(38)}, {131, []byte{4}}}} {
		writes(t, l, nil, ErrTwice)
	}
}
