package udp

import (
	"encoding/binary"
	"math/rand"
	"slices"
	"testing"

	"baffle/api"
)

// sum adds up the words of some bytes, with an end-around carry; a byte 0 is behind an odd number of them.
func sum(b []byte) uint16 {
	s := 0
	for i, x := range b {
		n := int(x)
		if i%2 == 0 {
			n *= 256
		}
		if s += n; s > 65535 {
			s -= 65535
		}
	}
	return uint16(s)
}

// pseudo returns the bytes of a pseudo header.
func pseudo(src, dst uint32, length uint16) []byte {
	b := binary.BigEndian.AppendUint32(nil, src)
	b = binary.BigEndian.AppendUint32(b, dst)
	return binary.BigEndian.AppendUint16(append(b, 0, 17), length)
}

// lengthOf returns what a datagram says that its length is.
func lengthOf(b []byte) int { return int(binary.BigEndian.Uint16(b[4:])) }

// sumOf returns the checksum that stands in a datagram.
func sumOf(b []byte) uint16 { return binary.BigEndian.Uint16(b[6:]) }

// with2 returns a datagram with two bytes from an index on replaced by a number.
func with2(b []byte, at int, x int) []byte {
	b = slices.Clone(b)
	binary.BigEndian.PutUint16(b[at:], uint16(x))
	return b
}

// computed returns the checksum between two addresses of a datagram that is Checked, before 0 is replaced.
func computed(b []byte, src, dst uint32) uint16 {
	b = with2(b[:lengthOf(b)], 6, 0)
	return 65535 - sum(append(pseudo(src, dst, uint16(len(b))), b...))
}

// sealed returns a datagram, and what is behind it, with its checksum.
func sealed(b []byte, src, dst uint32) []byte {
	c := int(computed(b, src, dst))
	if c == 0 {
		c = 65535
	}
	return with2(b, 6, c)
}

// packed returns a datagram as the chapter says, whether or not its ports are right.
func packed(h Header, src, dst uint32, data []byte) []byte {
	b := binary.BigEndian.AppendUint16(nil, h.SrcPort)
	b = binary.BigEndian.AppendUint16(b, h.DstPort)
	b = binary.BigEndian.AppendUint16(b, uint16(8+len(data)))
	b = slices.Concat(b, []byte{0, 0}, data)
	if h.Checked {
		return sealed(b, src, dst)
	}
	return b
}

// verifiedBy says whether the checksum of a right datagram is right.
func verifiedBy(b []byte, src, dst uint32) bool {
	l := lengthOf(b)
	return sumOf(b) == 0 || sum(append(pseudo(src, dst, uint16(l)), b[:l]...)) == 65535
}

// faultBy says what is wrong with some bytes.
func faultBy(b []byte) api.Errno {
	switch {
	case len(b) < 8:
		return ErrShort
	case lengthOf(b) < 8 || lengthOf(b) > len(b):
		return ErrLength
	case b[2]|b[3] == 0:
		return ErrPort
	}
	return api.OK
}

// some returns n bytes that differ from those before and after them.
func some(n int) []byte {
	b := make([]byte, n)
	for i := range b {
		b[i] = byte(11 + 29*i)
	}
	return b
}

// the example of the chapter
const exampleSrc, exampleDst = 0x0a000001, 0x0a000002

var (
	exampleHeader = Header{SrcPort: 53, DstPort: 1000, Checked: true}
	example       = []byte{0, 53, 3, 232, 0, 11, 227, 182, 1, 2, 3}
)

// headers may be written.
func headers() []Header {
	var l []Header
	for _, src := range []uint16{0, 1, 255, 256, 0x1234, 32768, 65280, 65535} {
		for _, dst := range []uint16{1, 255, 256, 0x5678, 32768, 65280, 65535} {
			l = append(l, Header{src, dst, false}, Header{src, dst, true})
		}
	}
	return l
}

// reads checks what is read of a datagram.
func reads(t *testing.T, b []byte, h Header, end int) {
	t.Helper()
	before := slices.Clone(b)
	if got, n, e := Read(b); got != h || n != end || e != api.OK {
		t.Error(b[:min(len(b), 60)], len(b), h, got, end, n, e)
	}
	if !slices.Equal(b, before) {
		t.Error("the argument is modified:", b, before)
	}
}

// fails checks that some bytes are not read, verified or turned, and that the other results are zero.
func fails(t *testing.T, b []byte, want api.Errno) {
	t.Helper()
	before := slices.Clone(b)
	if h, n, e := Read(b); h != (Header{}) || n != 0 || e != want {
		t.Error("Read:", b[:min(len(b), 60)], len(b), h, n, e, want)
	}
	for _, src := range addresses {
		if ok, e := Verify(b, src, 5); ok || e != want {
			t.Error("Verify:", b[:min(len(b), 60)], len(b), src, ok, e, want)
		}
	}
	turnFails(t, b, want)
	if !slices.Equal(b, before) {
		t.Error("the argument is modified:", b, before)
	}
}

// P9.1: each number has its place; data is behind them.
func TestRead(t *testing.T) {
	reads(t, example, exampleHeader, 11)
	reads(t, []byte{0, 53, 3, 232, 0, 11, 0, 0, 1, 2, 3}, Header{SrcPort: 53, DstPort: 1000}, 11)
	for _, h := range headers() {
		for _, n := range []int{0, 1, 2, 3, 247, 248, 249, 1460} {
			reads(t, packed(h, 5, 6, some(n)), h, 8+n)
			reads(t, packed(h, 5, 6, make([]byte, n)), h, 8+n)
		}
	}
}

// P9.1: each number of a port alone.
func TestReadPorts(t *testing.T) {
	for port := range 1 << 16 {
		b := with2(example, 0, port)
		reads(t, b, Header{uint16(port), 1000, true}, 11)
		if b = with2(example, 2, port); port == 0 {
			fails(t, b, ErrPort)
		} else {
			reads(t, b, Header{53, uint16(port), true}, 11)
		}
	}
}

// P9.1: a datagram is Checked if its checksum is not 0; whether it is right is not looked at.
func TestReadAnySum(t *testing.T) {
	for _, n := range []int{0, 3, 4} {
		b := packed(Header{SrcPort: 1, DstPort: 2}, 5, 6, some(n))
		for check := range 1 << 16 {
			reads(t, with2(b, 6, check), Header{1, 2, check != 0}, 8+n)
		}
	}
}

// P9.1: each number of bytes with each length that they say, whatever is behind it.
func TestReadLengths(t *testing.T) {
	fails(t, nil, ErrShort)
	fails(t, []byte{}, ErrShort)
	base := packed(exampleHeader, 5, 6, some(60))
	for n := range 40 {
		for l := range 50 {
			b := slices.Clone(base[:n])
			if n > 5 {
				b = with2(b, 4, l)
			}
			switch {
			case n < 8:
				fails(t, b, ErrShort)
			case l < 8 || l > n:
				fails(t, b, ErrLength)
				fails(t, slices.Clip(b), ErrLength)
			default:
				reads(t, b, exampleHeader, l)
			}
		}
	}
}

// P9.1: all lengths that there are, also those that no packet has room for.
func TestReadLong(t *testing.T) {
	long := packed(exampleHeader, 5, 6, some(70000))
	for l := range 1 << 16 {
		b := with2(long[:9], 4, l)
		if l == 8 || l == 9 {
			reads(t, b, exampleHeader, l)
		} else {
			fails(t, b, ErrLength)
		}
	}
	for _, l := range []int{8, 9, 255, 256, 257, 511, 65279, 65280, 65507, 65508, 65514, 65515, 65516, 65534, 65535} {
		b := with2(long, 4, l)
		reads(t, b, exampleHeader, l)
		reads(t, b[:l], exampleHeader, l)
		if l > 8 {
			fails(t, b[:l-1], ErrLength)
		}
	}
}

// P9.1: what lies behind a slice is none of its bytes.
func TestReadCut(t *testing.T) {
	for n := range example {
		want := ErrLength
		if n < 8 {
			want = ErrShort
		}
		fails(t, example[:n], want)
		fails(t, example[:n:n], want)
	}
	fails(t, with2(example, 4, 12)[:11], ErrLength)
}

// The errors have their numbers.
func TestErrorNumbers(t *testing.T) {
	if ErrShort != 90 || ErrLength != 91 || ErrPort != 92 {
		t.Error(ErrShort, ErrLength, ErrPort)
	}
}

// A defect makes a datagram wrong; each is asked for with those that come after it.
var defects = []struct {
	want  api.Errno
	kinds []func(b []byte) []byte
}{
	{ErrPort, []func(b []byte) []byte{
		func(b []byte) []byte { return with2(b, 2, 0) },
		func(b []byte) []byte { return with2(with2(b, 0, 0), 2, 0) },
	}},
	{ErrLength, []func(b []byte) []byte{
		func(b []byte) []byte { return with2(b, 4, 0) },
		func(b []byte) []byte { return with2(b, 4, 7) },
		func(b []byte) []byte { return with2(b, 4, len(b)+1) },
		func(b []byte) []byte { return with2(b, 4, 65535) },
	}},
	{ErrShort, []func(b []byte) []byte{
		func(b []byte) []byte { return b[:0] },
		func(b []byte) []byte { return b[:1] },
		func(b []byte) []byte { return b[:4] },
		func(b []byte) []byte { return b[:6] },
		func(b []byte) []byte { return b[:7] },
	}},
}

// withDefects calls a function with the datagram with each choice of one kind, or none, of each defect from a number on, and what is to be said of it then.
func withDefects(b []byte, from int, want api.Errno, f func(b []byte, want api.Errno)) {
	if from == len(defects) {
		f(b, want)
		return
	}
	withDefects(b, from+1, want, f)
	for _, spoil := range defects[from].kinds {
		withDefects(spoil(slices.Clone(b)), from+1, defects[from].want, f)
	}
}

// P9.1, P9.2, P9.3: of all things that are wrong the first one is returned.
func TestErrorsInOrder(t *testing.T) {
	asked := map[api.Errno]int{}
	for _, h := range []Header{{1, 2, true}, {1, 2, false}, {0, 2, true}} {
		for _, behind := range []int{0, 5} {
			b := append(packed(h, 5, 6, some(3)), some(behind)...)
			withDefects(b, 0, api.OK, func(b []byte, want api.Errno) {
				if asked[want]++; want != api.OK {
					fails(t, b, want)
				} else {
					reads(t, b, h, 11)
				}
			})
		}
	}
	if asked[api.OK] != 6 || asked[ErrPort] != 6*2 || asked[ErrLength] != 6*3*4 || asked[ErrShort] != 6*3*5*5 {
		t.Error(asked)
	}
}

// P9.1 to P9.3, R1: any bytes are read, verified and turned, or have their error.
func TestAnyBytes(t *testing.T) {
	for n := range 30 {
		for _, x := range []byte{0, 255, 1, 8, 16} {
			b := slices.Repeat([]byte{x}, n)
			if want := faultBy(b); want != api.OK {
				fails(t, b, want)
			}
		}
	}
	r := rand.New(rand.NewSource(9))
	seen := map[api.Errno]int{}
	for range 300000 {
		b := make([]byte, 5+r.Intn(30))
		r.Read(b)
		if r.Intn(8) > 0 && len(b) > 5 {
			b = with2(b, 4, r.Intn(30))
		}
		if r.Intn(6) == 0 {
			clear(b[2*r.Intn(2):][:2])
		}
		want := faultBy(b)
		if seen[want]++; want != api.OK {
			fails(t, b, want)
			continue
		}
		src, dst := r.Uint32(), r.Uint32()
		if r.Intn(2) == 0 {
			b = sealed(b, src, dst)
		}
		reads(t, b, Header{binary.BigEndian.Uint16(b), binary.BigEndian.Uint16(b[2:]), sumOf(b) != 0}, lengthOf(b))
		verifies(t, b, src, dst, verifiedBy(b, src, dst))
		if b[0]|b[1] == 0 {
			turnFails(t, b, ErrPort)
		} else {
			turns(t, b)
		}
	}
	for _, e := range []api.Errno{api.OK, ErrShort, ErrLength, ErrPort} {
		if seen[e] < 100 {
			t.Error("it is hardly asked for:", e, seen)
		}
	}
}
