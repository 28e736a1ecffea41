package tcp

import (
	"math"
	"slices"
	"testing"

	"baffle/api"
)

// saneBy says what the chapter says of flags, each flag by its number.
func saneBy(flags uint8) bool {
	set := map[string]bool{}
	for name, n := range map[string]int{"FIN": 1, "SYN": 2, "RST": 4, "ACK": 16} {
		set[name] = int(flags)/n%2 == 1
	}
	count := 0
	for _, name := range []string{"SYN", "RST", "FIN"} {
		if set[name] {
			count++
		}
	}
	return count <= 1 && (set["SYN"] || set["RST"] || set["ACK"])
}

// P8.1: all 256 numbers of flags.
func TestSane(t *testing.T) {
	count := 0
	for flags := range 256 {
		got := Sane(uint8(flags))
		if got != saneBy(uint8(flags)) {
			t.Error(flags, got)
		}
		if got {
			count++
		}
	}
	if count != 6*16 { // of FIN, SYN, RST and ACK: S, R, A, AS, AR, AF; of the other four: any
		t.Error(count)
	}
}

// P8.1: what the chapter names, and what does not matter.
func TestSaneNamed(t *testing.T) {
	sane := []uint8{api.SYN, api.SYN | api.ACK, api.RST, api.RST | api.ACK, api.ACK, api.FIN | api.ACK}
	insane := []uint8{0, api.FIN, api.SYN | api.FIN, api.SYN | api.RST, api.RST | api.FIN, api.SYN | api.FIN | api.ACK, api.SYN | api.RST | api.ACK, api.RST | api.FIN | api.ACK, api.SYN | api.RST | api.FIN, api.SYN | api.RST | api.FIN | api.ACK}
	for _, others := range []uint8{0, api.PSH, api.URG, 64, 128, 192, api.PSH | api.URG, 255 - api.FIN - api.SYN - api.RST - api.ACK} {
		for _, flags := range sane {
			if !Sane(flags | others) {
				t.Error(flags, others)
			}
		}
		for _, flags := range insane {
			if Sane(flags | others) {
				t.Error(flags, others)
			}
		}
	}
}

// P8.3: data, SYN and FIN take numbers, whatever other flags there are, and whether or not they are sane.
func TestExtent(t *testing.T) {
	for flags := range 256 {
		more := flags/2%2 + flags%2
		for _, n := range []int{0, 1, 2, 20, 1460, 65514, 65515, 65516, 65533, 65534, 65535} {
			if got := Extent(uint8(flags), n); got != n+more {
				t.Error(flags, n, got)
			}
		}
		for _, n := range []int{-1, -2, -65535, -65536, math.MinInt, 65536, 65537, 131072, 1 << 32, 1<<32 + 5, -1 << 32, math.MaxInt - 1, math.MaxInt} {
			if got := Extent(uint8(flags), n); got != 0 {
				t.Error(flags, n, got)
			}
		}
	}
	for _, c := range []struct {
		flags   uint8
		n, want int
	}{{api.SYN, 0, 1}, {api.ACK, 0, 0}, {api.FIN | api.ACK, 0, 1}, {api.FIN | api.SYN, 0, 2}, {api.RST, 5, 5}, {api.PSH | api.ACK, 100, 100}, {api.SYN | api.FIN | api.RST | api.URG, 65535, 65537}, {255, -1, 0}, {255, 65536, 0}} {
		if got := Extent(c.flags, c.n); got != c.want {
			t.Error(c, got)
		}
	}
}

// P8.1, P8.2: the flags of a segment are asked for by the same measure wherever they are.
func TestSaneEverywhere(t *testing.T) {
	for flags := range 256 {
		h := Header{SrcPort: 1, DstPort: 2, Flags: uint8(flags), Options: some(8)}
		b, e := Write(h, 3, 4, some(5))
		if saneBy(h.Flags) {
			if want := packed(h, 3, 4, some(5)); !slices.Equal(b, want) || e != api.OK {
				t.Error(flags, b, e)
			}
			reads(t, packed(h, 3, 4, some(5)), h)
		} else {
			if b != nil || e != api.ErrArg {
				t.Error(flags, b, e)
			}
			fails(t, packed(h, 3, 4, some(5)), ErrFlags)
		}
	}
}
