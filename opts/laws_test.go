package opts

import (
	"math/rand"
	"slices"
	"testing"

	"baffle/api"
)

// P6.6: what is written is read as it was.
func TestThereAndBack(t *testing.T) {
	r := rand.New(rand.NewSource(66))
	sizes := map[int]int{}
	for range 30000 {
		l := random(r)
		b, e := Write(l)
		if e != api.OK || len(b)%4 != 0 || len(b) > 40 {
			t.Fatal(l, b, e)
		}
		reads(t, b, l, api.OK)
		reads(t, bytesOf(l), l, api.OK)
		sizes[len(bytesOf(l))]++
		for _, o := range l {
			asks(t, o, true)
		}
	}
	for n := range 41 {
		if n != 0 && sizes[n] == 0 {
			t.Error("no options with", n, "bytes")
		}
	}
}

// P6.6: what is read, and written again, are the same bytes, up to bytes 0 at the end.
func TestBackAndThere(t *testing.T) {
	r := rand.New(rand.NewSource(67))
	trimmed := func(b []byte) []byte {
		for len(b) > 0 && b[len(b)-1] == 0 {
			b = b[:len(b)-1]
		}
		return b
	}
	for range 30000 {
		b := bytesOf(random(r))
		b = append(b, zeros(r.Intn(41-len(b)))...)
		l, e := Read(b)
		again, f := Write(l)
		if !slices.Equal(trimmed(again), trimmed(b)) || e+f != api.OK || len(again)%4 != 0 {
			t.Error(b, l, again, e, f)
		}
	}
}

// P6.6: an option with n addresses left records n addresses, and then no more.
func TestRecordsAll(t *testing.T) {
	r := rand.New(rand.NewSource(68))
	for _, kind := range routes {
		for n := range 10 {
			for k := range n + 1 {
				done := addrs(r, k)
				o := routed(kind, done, addrs(r, n-k))
				for range n - k {
					addr := r.Uint32()
					next, e := Record(o, addr)
					if e != api.OK || !Right(next) {
						t.Fatal(o, next, e)
					}
					o, done = next, append(done, addr)
				}
				if got, left, e := Route(o); !slices.Equal(got, done) || len(left) != 0 || e != api.OK {
					t.Error(o, got, left, e)
				}
				for range 2 {
					if next, e := Record(o, 1); !none(next) || e != api.ErrFull {
						t.Error(o, next, e)
					}
				}
			}
		}
	}
}

// spoil writes into all memory of Data, its spare capacity too.
func spoil(l ...[]byte) {
	for _, b := range l {
		for i := range b[:cap(b)] {
			b[:cap(b)][i] ^= 255
		}
	}
}

// P6.2: neither the bytes nor what lies behind them are modified or kept, and no two options share memory.
func TestReadMemory(t *testing.T) {
	want := []Option{{148, []byte{1, 2}}, {5, []byte{9, 8, 7}}, {Kind: 1}, {7, data(8, 8)}, {6, nil}, {148, []byte{3, 4}}}
	room := join(bytesOf(want), zeros(3), some(60))
	b, before := room[:len(bytesOf(want))+3], slices.Clone(room)
	l, _ := Read(b)
	other, _ := Read(b)
	for i := range l {
		spoil(l[i].Data)
		l[i].Kind ^= 255
		for j := range l {
			if j > i && !same(l[j], want[j]) {
				t.Error("two options share memory:", i, j)
			}
		}
	}
	_ = append(l, Option{99, []byte{99}})
	if !slices.Equal(room, before) {
		t.Error("options share memory with the bytes:", room)
	}
	if spoil(room); !slices.EqualFunc(other, want, same) {
		t.Error("the bytes are kept, or two results share memory:", other)
	}
}

// P6.3: neither options nor what lies behind their Data are modified or kept.
func TestWriteMemory(t *testing.T) {
	room := [][]byte{data(70, 4), some(70)}
	before := [][]byte{slices.Clone(room[0]), slices.Clone(room[1])}
	l := []Option{{131, room[0][:9]}, {5, room[1][:11]}, {77, room[1][11:12]}, {Kind: 1}, {Kind: 88}}
	for _, n := range []int{1, 2, 3, 4} {
		want := bytesOf(l[:n])
		want = append(want, zeros(-len(want)&3)...)
		b, _ := Write(l[:n])
		other, _ := Write(l[:n])
		spoil(b)
		if !slices.Equal(room[0], before[0]) || !slices.Equal(room[1], before[1]) || l[4].Kind != 88 {
			t.Error("the result shares memory with an argument:", room, l)
		}
		if spoil(room...); !slices.Equal(other, want) {
			t.Error("an argument is kept, or two results share memory:", other)
		}
		spoil(room...)
	}
}

// P6.4, P6.5: what is found, routed and recorded shares no memory with an argument, nor with another result.
func TestRouteMemory(t *testing.T) {
	room := data(60, 12)
	before := slices.Clone(room)
	o := Option{137, room[:21]}
	list := []Option{{Kind: 1}, o}
	done, left, _ := Route(o)
	recorded, _ := Record(o, 77)
	found, _ := Find(list, 137)
	kept, _ := Record(o, 77)
	still, _ := Find(list, 137)
	_ = append(done, 99, 99, 99)
	_ = append(left, 99, 99, 99)
	if next, all, _ := Route(Option{137, slices.Clone(before[:21])}); !slices.Equal(done, next) || !slices.Equal(left, all) || len(done) != 2 || len(left) != 3 {
		t.Error("two results share memory:", done, left)
	}
	for i := range done[:cap(done)] {
		done[:cap(done)][i] = 5
	}
	if slices.Contains(left, 5) {
		t.Error("what is done shares memory with what is left:", left)
	}
	spoil(recorded.Data, found.Data)
	if !slices.Equal(room, before) || !same(still, Option{137, before[:21]}) {
		t.Error("a result shares memory with an argument:", room, still)
	}
	spoil(room)
	want := slices.Clone(before[:21])
	want[0] += 4
	copy(want[9:], []byte{0, 0, 0, 77})
	if !same(still, Option{137, before[:21]}) || !same(kept, Option{137, want}) {
		t.Error("an argument is kept:", still, kept)
	}
}
