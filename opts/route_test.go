package opts

import (
	"encoding/binary"
	"math/rand"
	"slices"
	"testing"

	"baffle/api"
)

// P6.4: the first option of a kind, of any list.
func TestFind(t *testing.T) {
	odd := []Option{{Kind: 1}, {0, []byte{9}}, {7, some(300)}, {7, []byte{4}}, {131, nil}, {1, []byte{5, 6}}, {148, []byte{1}}, {0, []byte{8}}, {255, []byte{}}, {137, []byte{4}}, {148, []byte{1, 2}}}
	for kind := range 256 {
		var want Option
		ok := false
		for i := len(odd) - 1; i >= 0; i-- {
			if int(odd[i].Kind) == kind {
				want, ok = odd[i], true
			}
		}
		if got, found := Find(odd, uint8(kind)); !same(got, want) || found != ok || !ok && !none(got) {
			t.Error(kind, got, found)
		}
		for _, l := range [][]Option{nil, {}} {
			if got, found := Find(l, uint8(kind)); !none(got) || found {
				t.Error(kind, got, found)
			}
		}
		alone := []Option{{uint8(kind), []byte{7, 9}}}
		if got, found := Find(alone, uint8(kind)); !same(got, alone[0]) || !found {
			t.Error(kind, got, found)
		}
		if got, found := Find(alone, uint8(kind+1)); !none(got) || found {
			t.Error(kind, got, found)
		}
	}
}

// P6.4: a route of the source is KindLoose or KindStrict, right or not, wherever it is.
func TestRouted(t *testing.T) {
	if Routed(nil) || Routed([]Option{}) {
		t.Error("a route without options")
	}
	for kind := range 256 {
		want := kind == 131 || kind == 137
		for _, b := range [][]byte{nil, {4}, {3}, some(300)} {
			o := Option{uint8(kind), b}
			for _, l := range [][]Option{{o}, {{Kind: 1}, o}, {o, {Kind: 1}}, {{Kind: 0}, o, {7, []byte{4}}}, {{7, []byte{131}}, {68, []byte{137, 137}}, o}} {
				if got := Routed(l); got != want {
					t.Error(l, got)
				}
			}
		}
	}
}

// routed returns an option with addresses, some of them done.
func routed(kind uint8, done, left []uint32) Option {
	b := []byte{byte(4 + 4*len(done))}
	for _, a := range slices.Concat(done, left) {
		b = binary.BigEndian.AppendUint32(b, a)
	}
	return Option{kind, b}
}

// addrs returns n addresses.
func addrs(r *rand.Rand, n int) []uint32 {
	var l []uint32
	for range n {
		l = append(l, r.Uint32())
	}
	return l
}

// P6.5: the addresses that are done, and those that are left; the first of these is recorded.
func TestRoute(t *testing.T) {
	r := rand.New(rand.NewSource(65))
	for _, kind := range routes {
		for n := range 10 {
			for k := range n + 1 {
				done, left := addrs(r, k), addrs(r, n-k)
				o := routed(kind, done, left)
				before := slices.Clone(o.Data)
				gotDone, gotLeft, e := Route(o)
				if !slices.Equal(gotDone, done) || !slices.Equal(gotLeft, left) || e != api.OK {
					t.Error(o, gotDone, gotLeft, e)
				}
				addr := r.Uint32()
				got, e := Record(o, addr)
				if k == n {
					if !none(got) || e != api.ErrFull {
						t.Error(o, got, e)
					}
				} else if want := routed(kind, append(done, addr), left[1:]); !same(got, want) || e != api.OK {
					t.Error(o, got, e)
				}
				if !slices.Equal(o.Data, before) {
					t.Error("the argument is modified:", o, before)
				}
			}
		}
	}
}

// P6.5: the examples, with addresses at both ends.
func TestRecord(t *testing.T) {
	o := Option{7, []byte{4, 0, 0, 0, 0}}
	once, e := Record(o, 167772161)
	if !same(once, Option{7, []byte{8, 10, 0, 0, 1}}) || e != api.OK {
		t.Error(once, e)
	}
	if twice, e := Record(once, 167772161); !none(twice) || e != api.ErrFull {
		t.Error(twice, e)
	}
	for addr, b := range map[uint32][]byte{0: {0, 0, 0, 0}, 1: {0, 0, 0, 1}, 0xffffffff: {255, 255, 255, 255}, 0x01020304: {1, 2, 3, 4}, 0xfe000000: {254, 0, 0, 0}, 0x00fd0000: {0, 253, 0, 0}, 0x0000fc00: {0, 0, 252, 0}} {
		o, e := Record(Option{131, []byte{4, 9, 9, 9, 9, 8, 8, 8, 8}}, addr)
		if !same(o, Option{131, join([]byte{8}, b, []byte{8, 8, 8, 8})}) || e != api.OK {
			t.Error(addr, o, e)
		}
		done, left, e := Route(o)
		if !slices.Equal(done, []uint32{addr}) || !slices.Equal(left, []uint32{0x08080808}) || e != api.OK {
			t.Error(addr, done, left, e)
		}
	}
}

// P6.5: an option that is not right, or of another kind, is ErrArg, also if none is left.
func TestRouteRefuses(t *testing.T) {
	refuses := func(o Option) {
		t.Helper()
		if done, left, e := Route(o); done != nil || left != nil || e != api.ErrArg {
			t.Error(o, done, left, e)
		}
		if got, e := Record(o, 7); !none(got) || e != api.ErrArg {
			t.Error(o, got, e)
		}
	}
	for kind := range 256 {
		for _, b := range [][]byte{nil, {}, {4}, {8}, {4, 0, 0, 0, 0}, {8, 0, 0, 0, 0}, {5, 0}, {5, 0, 1, 2, 3, 4}, {9, 0, 1, 2, 3, 4}, {0, 0}, {1}, data(36, 4), data(36, 40), some(39), data(40, 4), data(40, 44), data(4, 3), data(4, 6), data(4, 12), data(3, 4), data(3, 8), data(3, 7), data(300, 4), data(300, 48)} {
			if o := (Option{uint8(kind), b}); !slices.Contains(routes, o.Kind) || !rightBy(o) {
				refuses(o)
			}
		}
	}
	for _, kind := range routes {
		for n := range 45 {
			for pointer := range 256 {
				if o := (Option{kind, data(n, byte(pointer))}); !rightBy(o) {
					refuses(o)
				}
			}
		}
	}
}
