package addr

import (
	"fmt"
	"math"
	"regexp"
	"strings"
	"testing"

	"baffle/api"
)

// wrong are prefixes that are not right.
var wrong = []api.Prefix{
	{Addr: ip(10, 0, 0, 1), Len: 8}, {Addr: 1, Len: 0}, {Addr: 1 << 31, Len: 0}, {Addr: 1, Len: 31}, {Addr: 3, Len: 31}, {Addr: math.MaxUint32, Len: 31}, {Addr: ip(10, 0, 0, 0), Len: 6}, {Addr: ip(128, 0, 0, 0) + 1<<30, Len: 1},
	{Addr: 0, Len: 33}, {Addr: ip(10, 0, 0, 0), Len: 33}, {Addr: math.MaxUint32, Len: 33}, {Addr: 0, Len: 64}, {Addr: 0, Len: 40}, {Addr: 0, Len: 128}, {Addr: 0, Len: 255}, {Addr: math.MaxUint32, Len: 255},
}

// some are right prefixes of all lengths, at all corners.
func some() []api.Prefix {
	var l []api.Prefix
	for n := range uint8(33) {
		for _, a := range corners {
			l = append(l, api.Prefix{Addr: uint32(uint64(a) >> (32 - n) << (32 - n)), Len: n})
		}
	}
	return l
}

// bounds returns the least address of a right prefix, and the one after its greatest.
func bounds(p api.Prefix) (uint64, uint64) {
	return uint64(p.Addr), uint64(p.Addr) + 1<<(32-p.Len)
}

// P3.2: a prefix is right if its length is from 0 to 32, and no bit after it is 1.
func TestRight(t *testing.T) {
	for n := range 256 {
		for bit := range 32 { // bit 0 is the first one
			p := api.Prefix{Addr: 1 << (31 - bit), Len: uint8(n)}
			if got, want := Right(p), n <= 32 && bit < n; got != want {
				t.Error(p, got)
			}
		}
		if got, want := Right(api.Prefix{Len: uint8(n)}), n <= 32; got != want {
			t.Error(n, got)
		}
	}
	for _, p := range some() {
		if !Right(p) {
			t.Error(p, "is right")
		}
	}
	for _, p := range wrong {
		if Right(p) {
			t.Error(p, "is not right")
		}
	}
}

// P3.2: a mask begins with as many bits that are 1, all of them from 32 on.
func TestMask(t *testing.T) {
	for n := range 256 {
		want := uint32(0)
		for bit := 0; bit < n && bit < 32; bit++ {
			want += 1 << (31 - bit)
		}
		if got := Mask(uint8(n)); got != want {
			t.Errorf("%d: %x, want %x", n, got, want)
		}
	}
	if Mask(0) != 0 || Mask(8) != 0xff000000 || Mask(31) != 0xfffffffe || Mask(32) != 0xffffffff || Mask(33) != 0xffffffff {
		t.Error(Mask(0), Mask(8), Mask(31), Mask(32), Mask(33))
	}
}

// P3.2: the prefix that is cut is right, has the length and the address.
func TestCut(t *testing.T) {
	if got, e := Cut(ip(10, 1, 2, 3), 8); got != (api.Prefix{Addr: ip(10, 0, 0, 0), Len: 8}) || e != api.OK {
		t.Error(got, e)
	}
	for n := range 256 {
		for _, a := range corners {
			got, e := Cut(a, uint8(n))
			if n > 32 {
				if got != (api.Prefix{}) || e != api.ErrArg {
					t.Error(a, n, got, e)
				}
				continue
			}
			want := api.Prefix{Addr: uint32(uint64(a) >> (32 - n) << (32 - n)), Len: uint8(n)}
			if got != want || e != api.OK {
				t.Error(a, n, got, e)
			}
		}
	}
}

// P3.2: the text of a prefix is that of its address, a slash, and its length; ErrPrefix if it is not right.
func TestPrefixText(t *testing.T) {
	for s, p := range map[string]api.Prefix{
		"0.0.0.0/0": {}, "10.0.0.0/8": {Addr: ip(10, 0, 0, 0), Len: 8}, "128.0.0.0/1": {Addr: 1 << 31, Len: 1}, "0.0.0.0/32": {Len: 32}, "255.255.255.255/32": {Addr: math.MaxUint32, Len: 32}, "255.255.255.254/31": {Addr: math.MaxUint32 - 1, Len: 31}, "1.2.3.4/30": {Addr: 0x01020304, Len: 30},
	} {
		if got, e := PrefixText(p); got != s || e != api.OK {
			t.Error(p, got, e)
		}
		if got, e := ReadPrefix(s); got != p || e != api.OK {
			t.Error(s, got, e)
		}
	}
	for _, p := range wrong {
		if got, e := PrefixText(p); got != "" || e != ErrPrefix {
			t.Error(p, got, e)
		}
	}
}

// P3.2: what is no text of a right prefix is ErrText, and the prefix is zero.
func TestReadPrefixRefuses(t *testing.T) {
	for _, s := range []string{
		"", "/", "//", "10.0.0.0", "10.0.0.0/", "/8", "10.0.0.0//8", "10.0.0.0/8/", "/10.0.0.0/8", "10.0.0.0/8/8", "8/10.0.0.0", "10.0.0.0 /8", "10.0.0.0/ 8", " 10.0.0.0/8", "10.0.0.0/8 ", "10.0.0.0\\8", "10.0.0.0:8", "10.0.0.0/8\n",
		"10.0.0.1/8", "10.0.0.0/33", "0.0.0.0/33", "0.0.0.0/255", "0.0.0.0/256", "0.0.0.0/264", "0.0.0.0/65536", "0.0.0.0/65568", "0.0.0.0/4294967296", "10.0.0.0/6", "0.0.0.1/0", "0.0.0.1/31", "128.0.0.0/0", "255.255.255.255/31", "10.0.0.1/33",
		"10.0.0.0/08", "10.0.0.0/00", "0.0.0.0/00", "10.0.0.0/+8", "10.0.0.0/-8", "0.0.0.0/-0", "10.0.0.0/8.0", "10.0.0.0/x", "10.0.0.0/255.0.0.0", "10/8", "10.0.0/8", "10.0.0.00/8", "010.0.0.0/8", "256.0.0.0/8", "10.0.0.0./8", "*", "*/0", "0/0",
		strings.Repeat("/", 100000), "10.0.0.0/" + strings.Repeat("0", 100000) + "8", "10.0.0.0/" + strings.Repeat("9", 100000),
	} {
		if got, e := ReadPrefix(s); got != (api.Prefix{}) || e != ErrText {
			t.Errorf("%.40q: %v, %d", s, got, e)
		}
	}
}

// P3.2: texts next to that of a prefix are read only if they are ones of right prefixes themselves.
func TestReadPrefixSpoilt(t *testing.T) {
	shape := regexp.MustCompile(`\A([0-9]+)\.([0-9]+)\.([0-9]+)\.([0-9]+)/([0-9]+)\z`)
	for _, p := range some() {
		text, e := PrefixText(p)
		if e != api.OK {
			t.Fatal(p, e)
		}
		for s := range spoilt(text) {
			var want api.Prefix
			l, ok := numbers(shape, s, 255, 255, 255, 255, 32)
			if ok {
				a := uint32(l[0])<<24 | uint32(l[1])<<16 | uint32(l[2])<<8 | uint32(l[3])
				want = api.Prefix{Addr: a, Len: uint8(l[4])}
				if ok = uint64(a)%(1<<(32-l[4])) == 0; !ok {
					want = api.Prefix{}
				}
			}
			if got, e := ReadPrefix(s); got != want || (e == api.OK) != ok || !ok && e != ErrText {
				t.Errorf("%q: %v, %d; want %v, %v", s, got, e, want, ok)
			}
		}
	}
}

// P3.3: a prefix has the addresses that begin with its bits; one that is not right has none.
func TestHas(t *testing.T) {
	for _, p := range some() {
		from, after := bounds(p)
		probes := append([]uint32{uint32(from), uint32(after - 1), uint32(from - 1), uint32(after)}, corners...)
		for _, a := range probes {
			if got, want := Has(p, a), from <= uint64(a) && uint64(a) < after; got != want {
				t.Error(p, a, got)
			}
		}
	}
	for _, p := range wrong {
		for _, a := range append([]uint32{p.Addr, p.Addr & 0xff000000, p.Addr + 1}, corners...) {
			if Has(p, a) {
				t.Error(p, a)
			}
		}
	}
}

// P3.3: bounds are the least and the greatest address; ErrPrefix if the prefix is not right.
func TestBounds(t *testing.T) {
	if least, most, e := Bounds(api.Prefix{Addr: ip(10, 0, 0, 0), Len: 8}); least != ip(10, 0, 0, 0) || most != ip(10, 255, 255, 255) || e != api.OK {
		t.Error(least, most, e)
	}
	for _, p := range some() {
		from, after := bounds(p)
		if least, most, e := Bounds(p); uint64(least) != from || uint64(most) != after-1 || e != api.OK {
			t.Error(p, least, most, e)
		}
	}
	for _, p := range wrong {
		if least, most, e := Bounds(p); least != 0 || most != 0 || e != ErrPrefix {
			t.Error(p, least, most, e)
		}
	}
}

// P3.3: a prefix is inside another one that has all its addresses, and meets one that has some; P3.7: of two one is inside the other, or they do not meet.
func TestInsideAndMeet(t *testing.T) {
	l := some()
	for _, p := range l {
		from, after := bounds(p)
		for _, q := range l {
			least, end := bounds(q)
			inside, back, meet := Inside(p, q), Inside(q, p), Meet(p, q)
			if inside != (least <= from && after <= end) {
				t.Fatal(p, q, inside)
			}
			if meet != (max(least, from) < min(after, end)) {
				t.Fatal(p, q, meet)
			}
			if meet != (inside || back) || meet != Meet(q, p) || inside && back != (p == q) {
				t.Fatal(p, q, inside, back, meet)
			}
		}
	}
}

// P3.3: nothing is inside of, or meets, a prefix that is not right, nor the other way round.
func TestWrongIsNowhere(t *testing.T) {
	for _, w := range wrong {
		for _, p := range append(some(), wrong...) {
			if Inside(w, p) || Inside(p, w) || Meet(w, p) || Meet(p, w) {
				t.Error(w, p)
			}
		}
	}
}

// P3.7: prefixes that are written are read back, and different ones have different texts.
func TestPrefixesReadBack(t *testing.T) {
	seen := map[string]api.Prefix{}
	for _, p := range some() {
		s, e := PrefixText(p)
		if want := fmt.Sprintf("%d.%d.%d.%d/%d", p.Addr>>24, p.Addr>>16&255, p.Addr>>8&255, p.Addr&255, p.Len); s != want || e != api.OK {
			t.Error(p, s, e)
		}
		if got, e := ReadPrefix(s); got != p || e != api.OK {
			t.Error(s, got, e)
		}
		if q, ok := seen[s]; ok && q != p {
			t.Error("one text of two prefixes:", s, p, q)
		}
		seen[s] = p
	}
}
