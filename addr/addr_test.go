package addr

import (
	"fmt"
	"math"
	"regexp"
	"strconv"
	"strings"
	"testing"

	"baffle/api"
)

// ip returns the address of four bytes.
func ip(a, b, c, d uint32) uint32 { return a<<24 | b<<16 | c<<8 | d }

// corners are addresses at which bytes and prefixes begin and end.
var corners = []uint32{0, 1, 2, 3, 127, 128, 255, 256, 65535, 65536, 1<<24 - 1, 1 << 24, ip(10, 0, 0, 0), ip(10, 0, 0, 1), ip(10, 1, 2, 3), ip(10, 255, 255, 255), ip(11, 0, 0, 0), 1<<31 - 1, 1 << 31, 1<<31 + 1, math.MaxUint32 - 255, math.MaxUint32 - 2, math.MaxUint32 - 1, math.MaxUint32}

// spoilt yields a text, and those that differ from it by one byte that is added, left out or replaced.
func spoilt(s string) func(func(string) bool) {
	return func(yield func(string) bool) {
		if !yield(s) {
			return
		}
		for i := range len(s) + 1 {
			if i < len(s) && !yield(s[:i]+s[i+1:]) {
				return
			}
			for _, x := range []string{"0", "1", "2", "5", "6", "9", ".", "/", "-", "+", ":", "*", " ", "_", "x", "\x00", "\xff", "\n", "٣"} {
				if !yield(s[:i]+x+s[i:]) || i < len(s) && !yield(s[:i]+x+s[i+1:]) {
					return
				}
			}
		}
	}
}

// numbers returns the numbers of a text of a given shape, and whether there are as many as there are limits, without leading zeros, and none above its limit.
func numbers(shape *regexp.Regexp, s string, limits ...int) ([]int, bool) {
	found := shape.FindStringSubmatch(s)
	if found == nil || len(found) != len(limits)+1 {
		return nil, false
	}
	var l []int
	for i, word := range found[1:] {
		n, err := strconv.Atoi(word)
		if err != nil || n > limits[i] || len(word) > 1 && word[0] == '0' {
			return nil, false
		}
		l = append(l, n)
	}
	return l, true
}

// P3.1: the text of an address is its four bytes in decimal, the upper one first.
func TestText(t *testing.T) {
	for a, want := range map[uint32]string{
		0: "0.0.0.0", 1: "0.0.0.1", 167772161: "10.0.0.1", 0x01020304: "1.2.3.4", 0xff000000: "255.0.0.0", 0x00ff0000: "0.255.0.0", 0x0000ff00: "0.0.255.0", 0x000000ff: "0.0.0.255",
		0x64636261: "100.99.98.97", 1 << 31: "128.0.0.0", 4294967295: "255.255.255.255",
	} {
		if got := Text(a); got != want {
			t.Error(a, got, want)
		}
		if got, e := Read(want); got != a || e != api.OK {
			t.Error(want, got, e)
		}
	}
}

// P3.1: every byte is written, and read, at every place.
func TestEveryByte(t *testing.T) {
	for n := range uint32(256) {
		for place := range 4 {
			bytes := [4]uint32{7, 80, 190, 201}
			bytes[place] = n
			a, s := ip(bytes[0], bytes[1], bytes[2], bytes[3]), fmt.Sprintf("%d.%d.%d.%d", bytes[0], bytes[1], bytes[2], bytes[3])
			if got := Text(a); got != s {
				t.Error(got, s)
			}
			if got, e := Read(s); got != a || e != api.OK {
				t.Error(s, got, e)
			}
		}
	}
}

// P3.1: what is no text of an address is ErrText, and the address is 0.
func TestReadRefuses(t *testing.T) {
	for _, s := range []string{
		"", ".", "...", "....", "10", "10.0", "10.0.0", "10.0.0.", ".0.0.1", "10..0.1", "10.0.0.1.", ".10.0.0.1", "10.0.0.1.0", "10.0.0.1.2.3.4", "10,0,0,1", "10.0.0,1", "10:0:0:1",
		"10.0.0.01", "010.0.0.1", "10.00.0.1", "10.0.000.1", "00.0.0.0", "10.0.0.256", "256.0.0.1", "10.300.0.1", "10.0.999.1", "10.0.0.1000", "10.0.0.65536", "10.0.0.65537", "10.0.0.4294967297", "10.0.0.18446744073709551617", "10.0.0.99999999999999999999999999",
		"+10.0.0.1", "-10.0.0.1", "10.0.0.+1", "10.0.0.-1", "10.0.0.-0", "10.0.0.1_0", "10.0.0.0x1", "10.0.0.a", "a.b.c.d", "10.0.0.1e1", "10.0.0.1/8", "10.0.0.1:80",
		" 10.0.0.1", "10.0.0.1 ", "10. 0.0.1", "10.0.0.1\n", "10.0.0.1\x00", "\x0010.0.0.1", "10.0.0.\xff", "10.0.0.٣", "１0.0.0.1", "*", "167772161", "0x0a000001", "::1",
		strings.Repeat("1", 100000), strings.Repeat(".", 100000), strings.Repeat("1.", 100000), "10.0.0." + strings.Repeat("0", 100000) + "1",
	} {
		if got, e := Read(s); got != 0 || e != ErrText {
			t.Errorf("%.40q: %d, %d", s, got, e)
		}
	}
	if ErrText != 30 || ErrPrefix != 31 || ErrRange != 32 {
		t.Error(ErrText, ErrPrefix, ErrRange)
	}
}

// P3.1: texts next to that of an address are read only if they are ones themselves.
func TestReadSpoilt(t *testing.T) {
	shape := regexp.MustCompile(`\A([0-9]+)\.([0-9]+)\.([0-9]+)\.([0-9]+)\z`)
	for _, a := range corners {
		for s := range spoilt(Text(a)) {
			want := uint32(0)
			l, ok := numbers(shape, s, 255, 255, 255, 255)
			if ok {
				want = ip(uint32(l[0]), uint32(l[1]), uint32(l[2]), uint32(l[3]))
			}
			if got, e := Read(s); got != want || (e == api.OK) != ok || !ok && e != ErrText {
				t.Errorf("%q: %d, %d; want %d, %v", s, got, e, want, ok)
			}
		}
	}
}

// P3.7: addresses that are written are read back, and different ones have different texts.
func TestAddressesReadBack(t *testing.T) {
	seen := map[string]uint32{}
	for i := range uint32(20000) {
		for _, a := range []uint32{i, i * 2654435761, math.MaxUint32 - i, i << 16, i << 8} {
			s := Text(a)
			if got, e := Read(s); got != a || e != api.OK {
				t.Fatal(a, s, got, e)
			}
			if b, ok := seen[s]; ok && b != a {
				t.Fatal("one text of two addresses:", s, a, b)
			}
			seen[s] = a
		}
	}
}
