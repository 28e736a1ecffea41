package tcp

import (
	"bytes"
	"math/rand"
	"slices"
	"testing"

	"baffle/api"
)

// anyHeader returns a right header.
func anyHeader(r *rand.Rand) Header {
	h := Header{
		SrcPort: uint16(1 + r.Intn(65535)), DstPort: uint16(1 + r.Intn(65535)), Seq: r.Uint32(), Ack: r.Uint32(),
		Flags: uint8(r.Uint32()), Window: uint16(r.Uint32()), Urgent: uint16(r.Uint32()), Options: make([]byte, 4*r.Intn(11)),
	}
	for !saneBy(h.Flags) {
		h.Flags = uint8(r.Uint32())
	}
	r.Read(h.Options)
	return h
}

// anyKnown returns a right Known.
func anyKnown(r *rand.Rand) Known {
	k := Known{Scale: r.Intn(16) - 1, Selective: r.Intn(2) == 0, Stamped: r.Intn(2) == 0}
	if r.Intn(2) == 0 {
		k.MSS = 1 + r.Intn(65535)
	}
	if k.Stamped {
		k.Stamp, k.Echo = r.Uint32(), r.Uint32()
	}
	for range r.Intn(5) {
		k.Blocks = append(k.Blocks, [2]uint32{r.Uint32(), r.Uint32()})
	}
	return k
}

// P8.6: what is written is read as it was, and is verified; with one bit changed, of it or of the addresses, it is not.
func TestThereAndBack(t *testing.T) {
	r := rand.New(rand.NewSource(86))
	for range 20000 {
		h, src, dst := anyHeader(r), r.Uint32(), r.Uint32()
		data := make([]byte, r.Intn(60))
		if r.Intn(500) == 0 {
			data = make([]byte, 65515-20-len(h.Options)-r.Intn(2))
		}
		r.Read(data)
		b, e := Write(h, src, dst, data)
		if e != api.OK || !Verify(b, src, dst) {
			t.Fatal(h, len(data), e)
		}
		reads(t, b, h)
		got, from, _ := Read(b)
		if !slices.Equal(b[from:], data) {
			t.Error(h, data, b[from:])
		}
		if again, e := Write(got, src, dst, b[from:]); !slices.Equal(again, b) || e != api.OK {
			t.Error(h, again, b, e)
		}
		for range 9 {
			at, bit := r.Intn(len(b)), byte(1)<<r.Intn(8)
			if b[at] ^= bit; Verify(b, src, dst) {
				t.Error(h, at, bit)
			}
			b[at] ^= bit
		}
		if bit := uint32(1) << r.Intn(32); Verify(b, src^bit, dst) || Verify(b, src, dst^bit) {
			t.Error(h, src, dst, bit)
		}
	}
}

// P8.6: known options that are formatted are parsed as they were.
func TestFormattedIsParsed(t *testing.T) {
	r := rand.New(rand.NewSource(87))
	long := 0
	for range 50000 {
		k := anyKnown(r)
		b, e := Format(k)
		if e == api.ErrLong {
			long++
			continue
		}
		if e != api.OK || len(b)%4 != 0 || len(b) > 40 {
			t.Fatal(k, b, e)
		}
		parses(t, b, k, api.OK)
		h := anyHeader(r)
		h.Options = b
		segment, e := Write(h, 5, 6, nil)
		if e != api.OK {
			t.Error(k, e)
		}
		got, _, _ := Read(segment)
		parses(t, got.Options, k, api.OK)
	}
	if long < 1000 || long > 49000 {
		t.Error(long)
	}
}

// P8.6: unknown options, and bytes 1, between known ones change nothing; nor does what is behind the end.
func TestBetweenKnown(t *testing.T) {
	r := rand.New(rand.NewSource(88))
	mixed := 0
	for range 50000 {
		k := anyKnown(r)
		k.Blocks = k.Blocks[:min(len(k.Blocks), r.Intn(3))]
		one := []Known{{Scale: -1, MSS: k.MSS}, {Scale: k.Scale}, {Scale: -1, Selective: k.Selective}, {Scale: -1, Stamped: k.Stamped, Stamp: k.Stamp, Echo: k.Echo}, {Scale: -1, Blocks: k.Blocks}}
		r.Shuffle(len(one), func(i, j int) { one[i], one[j] = one[j], one[i] })
		var b []byte
		for _, x := range one {
			switch r.Intn(3) {
			case 0:
				b = append(b, nops(r.Intn(3))...)
			case 1:
				content := make([]byte, r.Intn(5))
				r.Read(content)
				b = append(b, whole(uint8(9+r.Intn(247)), content...)...)
			}
			b = append(b, bytes.TrimLeft(formatted(x), "\x01")...)
		}
		if r.Intn(2) == 0 {
			behind := make([]byte, r.Intn(6))
			r.Read(behind)
			b = append(append(b, 0), behind...)
		}
		if len(b) > 40 {
			parses(t, b, Known{}, api.ErrLong)
			continue
		}
		mixed++
		parses(t, b, k, api.OK)
		if again, e := Format(k); e == api.OK {
			parses(t, again, k, api.OK)
		}
	}
	if mixed < 10000 {
		t.Error(mixed)
	}
}

// P8.4, R1: right bytes that are spoilt in some places, or cut, and any bytes.
func TestParseSpoilt(t *testing.T) {
	r := rand.New(rand.NewSource(84))
	seen := map[api.Errno]int{}
	for i := range 200000 {
		b := formatted(anyKnown(r))
		if i%4 == 0 {
			b = make([]byte, r.Intn(43))
			r.Read(b)
		}
		for range r.Intn(3) {
			if len(b) > 0 {
				b[r.Intn(len(b))] = []byte{0, 1, 2, 3, 4, 5, 6, 8, 9, 10, 14, 15, 18, 40, 255, byte(r.Uint32())}[r.Intn(16)]
			}
		}
		b = b[:len(b)-r.Intn(len(b)+1)*r.Intn(2)]
		want, e := meant(b)
		parses(t, b, want, e)
		seen[e]++
	}
	if seen[api.OK] < 1000 || seen[api.ErrLong] < 1000 || seen[ErrOption] < 1000 {
		t.Error(seen)
	}
}

// P8.1: bytes, and what lies behind them, are neither modified nor kept, and the options share no memory with them.
func TestReadMemory(t *testing.T) {
	room := slices.Concat(packed(Header{SrcPort: 1, DstPort: 2, Flags: api.ACK, Options: some(8)}, 5, 6, some(10)), some(50))
	b, before := room[:38], slices.Clone(room)
	h, _, _ := Read(b)
	other, _, _ := Read(b)
	_ = append(h.Options, 99, 99, 99)
	clear(h.Options[:cap(h.Options)])
	if !slices.Equal(room, before) {
		t.Error("a result shares memory with the argument:", room)
	}
	clear(room)
	if !slices.Equal(other.Options, some(8)) {
		t.Error("the argument is kept, or two results share memory:", other.Options)
	}
}

// P8.2: neither the options nor the data of what is written, nor what lies behind them, are modified or kept.
func TestWriteMemory(t *testing.T) {
	for _, size := range []int{0, 8, 40} {
		for _, n := range []int{0, 1, 16} {
			options, data := some(90), some(80)
			h := Header{SrcPort: 1, DstPort: 2, Flags: api.SYN, Options: options[:size]}
			b, _ := Write(h, 5, 6, data[:n])
			other, _ := Write(h, 5, 6, data[:n])
			want := packed(h, 5, 6, data[:n])
			_ = append(b, 99, 99, 99)
			clear(b[:cap(b)])
			if !slices.Equal(options, some(90)) || !slices.Equal(data, some(80)) {
				t.Error("the result shares memory with an argument:", options, data)
			}
			if clear(options); !slices.Equal(other, want) {
				t.Error("an argument is kept, or two results share memory:", other)
			}
			if clear(data); !slices.Equal(other, want) {
				t.Error("an argument is kept, or two results share memory:", other)
			}
		}
	}
}

// P8.2: bytes that are verified are not modified, nor is what lies behind them.
func TestVerifyMemory(t *testing.T) {
	for n := range 5 {
		room := slices.Concat(packed(exampleHeader, 5, 6, some(n)), some(50))
		before := slices.Clone(room)
		if !Verify(room[:20+n], 5, 6) || !slices.Equal(room, before) {
			t.Error(room, before)
		}
	}
}

// P8.4, P8.5: what is parsed and formatted shares no memory with an argument, nor with another result.
func TestOptionsMemory(t *testing.T) {
	b := whole(5, some(16)...)
	k, _ := Parse(b)
	other, _ := Parse(b)
	want, _ := meant(b)
	clear(b)
	_ = append(k.Blocks, [2]uint32{9, 9})
	if clear(k.Blocks[:cap(k.Blocks)]); !alike(other, want) {
		t.Error("the argument is kept, or two results share memory:", other)
	}
	room := blocks(4)
	known := Known{Scale: -1, Stamped: true, Stamp: 7, Blocks: room[:2]}
	one, _ := Format(known)
	two, _ := Format(known)
	formed := formatted(known)
	_ = append(one, 99, 99, 99)
	clear(one[:cap(one)])
	if !slices.Equal(room, blocks(4)) {
		t.Error("the argument is modified:", room)
	}
	if clear(room); !slices.Equal(two, formed) {
		t.Error("the argument is kept, or two results share memory:", two)
	}
}
