package ip

import (
	"math/rand"
	"slices"
	"testing"

	"baffle/api"
)

// random returns a header, and how many bytes of data it is right for.
func random(r *rand.Rand) (Header, int) {
	h := Header{
		TOS: uint8(r.Uint32()), ID: uint16(r.Uint32()), DF: r.Intn(2) == 0, MF: r.Intn(2) == 0, Offset: r.Intn(8190) * 8,
		TTL: uint8(r.Uint32()), Proto: uint8(r.Uint32()), Src: r.Uint32(), Dst: r.Uint32(), Options: make([]byte, 4*r.Intn(11)),
	}
	r.Read(h.Options)
	most := min(65515-h.Offset, 65515-len(h.Options))
	if r.Intn(20) > 0 {
		most = min(most, 60)
	}
	n := r.Intn(most + 1)
	if h.MF {
		if n -= n % 8; n == 0 {
			h.MF = false
		}
	}
	return h, n
}

// P5.5: what is written is read as it was, and what is read and written again is the same.
func TestThereAndBack(t *testing.T) {
	r := rand.New(rand.NewSource(55))
	for range 20000 {
		h, n := random(r)
		data := some(n)
		b, e := Write(h, data)
		if e != api.OK || !Right(h, n) {
			t.Fatal(h, n, e)
		}
		long := slices.Concat(b, some(r.Intn(4)))
		reads(t, long, h, n)
		got, from, to, _ := Read(long)
		if !slices.Equal(long[from:to], data) {
			t.Error(h, n, long[from:to])
		}
		if again, e := Write(got, long[from:to]); !slices.Equal(again, b) || e != api.OK {
			t.Error(h, n, again, b, e)
		}
	}
}

// P5.5: but for a checksum of 65535, which becomes 0.
func TestBackWithSum(t *testing.T) {
	r := rand.New(rand.NewSource(56))
	for range 2000 {
		h, n := random(r)
		b := packed(h, some(n))
		b[4], b[5], b[10], b[11] = 0, 0, 0, 0
		h.ID = 65535 - sum(b[:20+len(h.Options)]) // so that the checksum is 0
		b = packed(h, some(n))
		full := slices.Replace(slices.Clone(b), 10, 12, 255, 255)
		reads(t, b, h, n)
		reads(t, full, h, n)
		got, from, to, _ := Read(full)
		if again, e := Write(got, full[from:to]); !slices.Equal(again, b) || again[10] != 0 || again[11] != 0 || e != api.OK {
			t.Error(h, n, again, e)
		}
	}
}

// P5.5: a turned packet is right, and turned twice it is the same; a hop is right, too.
func TestTurnedIsRight(t *testing.T) {
	r := rand.New(rand.NewSource(57))
	for range 5000 {
		h, n := random(r)
		b := packed(h, some(n))
		turned, e := Turn(b)
		want := h
		want.Src, want.Dst = h.Dst, h.Src
		reads(t, turned, want, n)
		if again, f := Turn(turned); e+f != api.OK || !slices.Equal(again, b) {
			t.Error(h, n, again, e, f)
		}
		if hop, e := Hop(b); e == api.OK {
			want = h
			want.TTL--
			reads(t, hop, want, n)
		} else if e != ErrTTL || h.TTL > 1 {
			t.Error(h, e)
		}
	}
}

// P5.5: a packet with one bit of its header changed, but for those of H, is not read.
func TestOneBit(t *testing.T) {
	r := rand.New(rand.NewSource(58))
	for range 300 {
		h, n := random(r)
		b := slices.Concat(packed(h, some(n)), some(r.Intn(3)*300))
		for bit := range 8 * (20 + len(h.Options)) {
			if bit >= 4 && bit < 8 {
				continue
			}
			changed := slices.Clone(b)
			changed[bit/8] ^= 128 >> (bit % 8)
			want := ErrSum
			switch {
			case bit < 4:
				want = ErrVersion
			case bit >= 16 && bit < 32:
				want = faultBy(changed) // the total length may be too great, or too small
			}
			if want == api.OK {
				t.Error(h, n, bit)
			}
			fails(t, changed, want)
		}
	}
}

// P5.2 to P5.4: arguments, and what lies behind them, are neither modified nor kept, and results share no memory with them.
func TestMemory(t *testing.T) {
	room := slices.Concat(packed(Header{TTL: 9, Src: 1, Dst: 2, Options: []byte{1, 2, 3, 4}}, some(10)), some(50))
	b, before := room[:34], slices.Clone(room)
	h, from, to, _ := Read(b)
	hop, _ := Hop(b)
	turned, _ := Turn(b)
	kept := [][]byte{slices.Clone(h.Options), slices.Clone(hop), slices.Clone(turned)}
	for i, l := range [][]byte{h.Options, hop, turned} {
		_ = append(l, 99, 99, 99)
		clear(l[:cap(l)])
		if !slices.Equal(room, before) {
			t.Error("a result shares memory with the argument:", i, room)
		}
		copy(l, kept[i])
	}
	clear(room)
	if !slices.Equal(h.Options, []byte{1, 2, 3, 4}) || !slices.Equal(hop, kept[1]) || !slices.Equal(turned, kept[2]) {
		t.Error("the argument is kept:", h.Options, hop, turned)
	}
	copy(room, before)
	again, _, _, _ := Read(b)
	clear(h.Options)
	if !slices.Equal(again.Options, []byte{1, 2, 3, 4}) || from != 24 || to != 34 {
		t.Error("two results share memory:", again)
	}
}

// P5.3: neither the options nor the data of what is written are modified or kept.
func TestWriteMemory(t *testing.T) {
	options, data := some(90), some(80)
	h := Header{TTL: 9, Options: options[:8]}
	b, _ := Write(h, data[:16])
	want := packed(h, some(16))
	_ = append(b, 99, 99, 99)
	clear(b[:cap(b)])
	if !slices.Equal(options, some(90)) || !slices.Equal(data, some(80)) {
		t.Error("the result shares memory with an argument:", options, data)
	}
	b, _ = Write(h, data[:16])
	other, _ := Write(h, data[:16])
	clear(options)
	clear(data)
	clear(other)
	if !slices.Equal(b, want) {
		t.Error("an argument is kept, or two results share memory:", b)
	}
}
