package opts

import (
	"math/rand"
	"slices"
	"testing"

	"baffle/api"
)

// exclude reports whether two kinds exclude one another.
func exclude(a, b uint8) bool {
	pairs := [][2]uint8{{7, 7}, {68, 68}, {131, 131}, {131, 137}, {137, 131}, {137, 137}}
	return slices.Contains(pairs, [2]uint8{a, b})
}

// meant reads bytes as the chapter says, byte by byte.
func meant(b []byte) ([]Option, api.Errno) {
	if len(b) > 40 {
		return nil, api.ErrLong
	}
	var l []Option
	for i := 0; i < len(b); {
		kind := b[i]
		if kind == 0 {
			for _, x := range b[i:] {
				if x != 0 {
					return nil, ErrTail
				}
			}
			return l, api.OK
		}
		o, next := Option{Kind: kind}, i+1
		if kind != 1 {
			switch {
			case next == len(b):
				return nil, ErrCut
			case b[next] < 2:
				return nil, ErrLength
			case int(b[next]) > len(b)-i:
				return nil, ErrCut
			}
			next = i + int(b[next])
			o.Data = b[i+2 : next]
		}
		if !rightBy(o) {
			return nil, ErrLength
		}
		for _, before := range l {
			if exclude(before.Kind, kind) {
				return nil, ErrTwice
			}
		}
		l, i = append(l, o), next
	}
	return l, api.OK
}

// reads checks what is read of some bytes.
func reads(t *testing.T, b []byte, want []Option, e api.Errno) {
	t.Helper()
	room := append(slices.Clone(b), some(9)...)
	before := slices.Clone(room)
	got, f := Read(room[:len(b)])
	if !slices.EqualFunc(got, want, same) || f != e || e != api.OK && got != nil {
		t.Error(b, got, f, "want", want, e)
	}
	if !slices.Equal(room, before) {
		t.Error("the argument is modified:", room, before)
	}
}

// join puts bytes together.
func join(l ...[]byte) []byte { return slices.Concat(l...) }

// zeros returns n bytes 0, nops n bytes 1.
func zeros(n int) []byte { return make([]byte, n) }
func nops(n int) []byte  { return slices.Repeat([]byte{1}, n) }

// whole returns the bytes of an option with n bytes of Data.
func whole(kind uint8, n int) []byte { return data(n, kind, byte(n+2)) }

// P6.2: the options of some bytes, in order, without KindEnd.
func TestRead(t *testing.T) {
	nop := Option{Kind: 1}
	record := Option{7, []byte{4, 0, 0, 0, 0}}
	for _, c := range []struct {
		b    []byte
		want []Option
	}{
		{nil, nil}, {[]byte{}, nil}, {[]byte{0}, nil}, {zeros(4), nil}, {zeros(40), nil}, {[]byte{1}, []Option{nop}}, {[]byte{1, 0}, []Option{nop}}, {[]byte{1, 0, 0, 0}, []Option{nop}}, {nops(40), slices.Repeat([]Option{nop}, 40)},
		{[]byte{1, 7, 7, 4, 0, 0, 0, 0}, []Option{nop, record}}, {[]byte{7, 7, 4, 0, 0, 0, 0, 0}, []Option{record}}, {[]byte{7, 7, 4, 0, 0, 0, 0, 1, 0, 0}, []Option{record, nop}}, {[]byte{7, 7, 8, 10, 0, 0, 1}, []Option{{7, []byte{8, 10, 0, 0, 1}}}},
		{[]byte{68, 12, 5, 1, 9, 8, 7, 6, 5, 4, 3, 2}, []Option{{68, []byte{5, 1, 9, 8, 7, 6, 5, 4, 3, 2}}}}, {[]byte{68, 4, 5, 0, 0}, []Option{{68, []byte{5, 0}}}},
		{[]byte{5, 2}, []Option{{5, nil}}}, {[]byte{5, 2, 5, 2, 5, 2}, []Option{{5, nil}, {5, nil}, {5, nil}}}, {[]byte{2, 3, 255, 1, 255, 3, 2}, []Option{{2, []byte{255}}, nop, {255, []byte{2}}}}, {[]byte{9, 4, 0, 0, 1}, []Option{{9, []byte{0, 0}}, nop}},
		{[]byte{148, 4, 0, 0}, []Option{{148, []byte{0, 0}}}}, {[]byte{148, 4, 1, 2, 148, 4, 3, 4}, []Option{{148, []byte{1, 2}}, {148, []byte{3, 4}}}},
		{[]byte{7, 3, 4, 131, 3, 4, 68, 4, 5, 3, 148, 4, 0, 1}, []Option{{7, []byte{4}}, {131, []byte{4}}, {68, []byte{5, 3}}, {148, []byte{0, 1}}}}, {[]byte{137, 3, 4, 7, 3, 4}, []Option{{137, []byte{4}}, {7, []byte{4}}}},
		{whole(5, 38), []Option{{5, some(38)}}}, {join([]byte{1}, whole(5, 37)), []Option{nop, {5, some(37)}}}, {join(whole(5, 37), []byte{0}), []Option{{5, some(37)}}}, {data(36, 7, 39, 40), []Option{{7, data(36, 40)}}}, {join(data(36, 131, 39, 4), nops(1)), []Option{{131, data(36, 4)}, nop}}, {data(36, 68, 40, 41, 0), []Option{{68, data(36, 41, 0)}}},
	} {
		reads(t, c.b, c.want, api.OK)
	}
}

// P6.2: what is wrong.
func TestReadRefuses(t *testing.T) {
	for e, l := range map[api.Errno][][]byte{
		api.ErrLong: {zeros(41), nops(41), whole(5, 39), join(whole(5, 38), []byte{0}), zeros(100000), nops(1 << 20), some(256 + 4)},
		ErrCut:      {{5}, {1, 5}, {7}, {148}, {255}, {68}, {5, 9, 0}, {5, 3}, {5, 255}, {5, 4, 0}, {7, 8, 4, 0, 0, 0, 0}, {7, 7, 4, 0, 0, 0}, {1, 1, 5, 3}, {148, 4, 0}, {131, 4, 4}, join(nops(39), []byte{5}), join(nops(38), []byte{5, 3}), join(whole(5, 37), []byte{5}), {7, 3, 4, 7, 4, 4}, {7, 3, 4, 7}, {5, 41}},
		ErrLength:   {{5, 0}, {5, 1}, {5, 1, 1, 1}, {1, 5, 0}, {7, 0}, {7, 1}, {7, 2}, {131, 2}, {137, 2}, {68, 2}, {148, 2}, {7, 6, 4, 0, 0, 0}, {7, 3, 3}, {7, 3, 8}, {7, 7, 0, 0, 0, 0, 0}, {7, 7, 6, 0, 0, 0, 0}, {7, 7, 12, 0, 0, 0, 0}, {7, 5, 4, 0, 0}, {131, 4, 4, 0}, {137, 3, 5}, {68, 3, 5}, {68, 4, 5, 2}, {68, 8, 5, 1, 0, 0, 0, 0}, {68, 8, 7, 0, 0, 0, 0, 0}, {68, 12, 9, 3, 0, 0, 0, 0, 0, 0, 0, 0}, {148, 3, 0}, {148, 5, 0, 0, 0}, {5, 2, 5, 1}, {7, 3, 4, 7, 2}, {7, 3, 4, 7, 1}},
		ErrTail:     {{0, 1}, {0, 0, 3}, {0, 255}, {1, 0, 1}, {5, 2, 0, 0, 0, 5, 2}, join(zeros(39), []byte{1}), join(zeros(1), nops(39)), join(nops(38), []byte{0, 9}), {0, 0, 0, 128}, {7, 3, 4, 0, 7, 3, 4}, {0, 5}, {0, 5, 0}},
		ErrTwice:    {{7, 3, 4, 7, 3, 4}, {68, 4, 5, 0, 68, 4, 5, 1}, {131, 3, 4, 131, 3, 4}, {131, 3, 4, 137, 3, 4}, {137, 3, 4, 131, 3, 4}, {137, 3, 4, 137, 3, 4}, {7, 3, 4, 1, 5, 2, 148, 4, 0, 0, 7, 7, 4, 0, 0, 0, 0}, {131, 3, 4, 7, 3, 4, 137, 3, 4, 0}, {7, 3, 4, 7, 7, 8, 1, 2, 3, 4}},
	} {
		for _, b := range l {
			reads(t, b, nil, e)
		}
	}
}

// P6.2: the first thing that is wrong counts, whatever comes after it; too many bytes come before all.
func TestReadFirst(t *testing.T) {
	wrong := []struct {
		b []byte
		e api.Errno
	}{{[]byte{5, 0}, ErrLength}, {[]byte{5, 1}, ErrLength}, {[]byte{7, 6, 4, 0, 0, 0}, ErrLength}, {[]byte{148, 3, 0}, ErrLength}, {[]byte{7, 3, 4, 7, 3, 4}, ErrTwice}, {[]byte{131, 3, 4, 137, 3, 4}, ErrTwice}, {[]byte{68, 4, 5, 0, 68, 4, 5, 0}, ErrTwice}, {[]byte{0, 0, 3}, ErrTail}, {[]byte{5, 99}, ErrCut}}
	for _, c := range wrong {
		reads(t, c.b, nil, c.e)
		for _, after := range wrong {
			b := join(c.b, after.b)
			reads(t, b, nil, c.e)
			reads(t, join(nops(3), b), nil, c.e)
			reads(t, join(b, nops(41)), nil, api.ErrLong)
			reads(t, join([]byte{148, 4, 0, 0}, b, []byte{5}), nil, c.e)
		}
	}
	for _, c := range []struct { // two things that are wrong with one option
		b []byte
		e api.Errno
	}{{[]byte{7, 3, 4, 7}, ErrCut}, {[]byte{7, 3, 4, 7, 1}, ErrLength}, {[]byte{7, 3, 4, 7, 99, 4}, ErrCut}, {[]byte{7, 3, 4, 7, 3, 5}, ErrLength}, {[]byte{7, 3, 4, 7, 3, 8, 0, 1}, ErrLength}, {[]byte{148, 9, 0}, ErrCut}, {[]byte{7, 6, 4, 0, 0}, ErrCut}, {[]byte{68, 12, 5, 2, 0}, ErrCut}, {[]byte{131, 3, 4, 137, 2}, ErrLength}} {
		reads(t, c.b, nil, c.e)
	}
}

// P6.2: of each pair of kinds the second one is excluded, or not, whatever is between them.
func TestReadPairs(t *testing.T) {
	samples := [][]byte{{1}, {7, 3, 4}, {7, 7, 8, 1, 2, 3, 4}, {68, 4, 5, 0}, {68, 12, 13, 3, 1, 2, 3, 4, 5, 6, 7, 8}, {131, 3, 4}, {131, 7, 4, 1, 2, 3, 4}, {137, 3, 4}, {137, 7, 8, 1, 2, 3, 4}, {148, 4, 1, 2}, {2, 2}, {6, 3, 9}, {69, 2}, {130, 2}, {132, 2}, {255, 4, 0, 0}}
	for _, a := range samples {
		for _, b := range samples {
			want := api.OK
			if exclude(a[0], b[0]) {
				want = ErrTwice
			}
			for _, between := range [][]byte{nil, {1}, {3, 2}, {9, 4, 7, 7}} {
				l := join(a, between, b)
				if _, e := Read(l); e != want {
					t.Error(l, e)
				}
				_, e := meant(l)
				if e != want {
					t.Error("the test's own reader:", l, e)
				}
			}
		}
	}
}

// P6.2: all short lists of bytes that mean something.
func TestReadShort(t *testing.T) {
	var try func(b []byte)
	try = func(b []byte) {
		want, e := meant(b)
		if got, f := Read(b); !slices.EqualFunc(got, want, same) || f != e || e != api.OK && got != nil {
			t.Error(b, got, f, want, e)
		}
		if len(b) < 5 {
			for _, x := range []byte{0, 1, 2, 3, 4, 5, 7, 8, 68, 131, 148} {
				try(append(slices.Clip(b), x))
			}
		}
	}
	try(nil)
}

// P6.2: every length of every kind, in every number of bytes.
func TestReadLengths(t *testing.T) {
	for _, kind := range slices.Concat(special, plain) {
		for size := range 256 {
			for n := range 42 {
				for _, front := range [][]byte{{4}, {5, 0}, {5, 1}} {
					b := join([]byte{kind, byte(size)}, front, zeros(42))[:n]
					want, e := meant(b)
					if got, f := Read(b); !slices.EqualFunc(got, want, same) || f != e {
						t.Error(b, got, f, want, e)
					}
				}
			}
		}
	}
}

// P6.2: right bytes that are spoilt in one place, or cut.
func TestReadSpoilt(t *testing.T) {
	r := rand.New(rand.NewSource(62))
	for range 30000 {
		b := bytesOf(random(r))
		b = append(b, zeros(r.Intn(3))...)
		for range r.Intn(3) {
			if len(b) > 0 {
				b[r.Intn(len(b))] = []byte{0, 1, 2, 3, 4, 5, 7, 8, 12, 40, 68, 131, 137, 148, 255, byte(r.Uint32())}[r.Intn(16)]
			}
		}
		b = b[:len(b)-r.Intn(len(b)+1)*r.Intn(2)]
		want, e := meant(b)
		reads(t, b, want, e)
	}
}
