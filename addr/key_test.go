package addr

import (
	"fmt"
	"math"
	"regexp"
	"slices"
	"strings"
	"testing"

	"baffle/api"
)

// keys are all that have the least, some middle, or the greatest value in each part.
func keys() []api.Key {
	var l []api.Key
	for _, proto := range []uint8{0, 6, 255} {
		for _, src := range []uint32{0, ip(10, 0, 0, 1), math.MaxUint32} {
			for _, srcPort := range []uint16{0, 80, 65535} {
				for _, dst := range []uint32{0, ip(10, 0, 0, 2), math.MaxUint32} {
					for _, dstPort := range []uint16{0, 90, 65535} {
						l = append(l, api.Key{Proto: proto, Src: src, Dst: dst, SrcPort: srcPort, DstPort: dstPort})
					}
				}
			}
		}
	}
	return l
}

// P3.6: a key turned has both ends exchanged, and the same protocol; P3.7: turned twice it is the same.
func TestTurn(t *testing.T) {
	k := api.Key{Proto: 6, Src: ip(10, 0, 0, 1), SrcPort: 80, Dst: ip(10, 0, 0, 2), DstPort: 90}
	if got := Turn(k); got != (api.Key{Proto: 6, Src: ip(10, 0, 0, 2), SrcPort: 90, Dst: ip(10, 0, 0, 1), DstPort: 80}) {
		t.Error(got)
	}
	for _, k := range keys() {
		got := Turn(k)
		if got.Proto != k.Proto || got.Src != k.Dst || got.Dst != k.Src || got.SrcPort != k.DstPort || got.DstPort != k.SrcPort {
			t.Error(k, got)
		}
		if Turn(got) != k {
			t.Error(k, Turn(got))
		}
	}
}

// P3.6: keys are ordered by their protocol, source, port of the source, destination, and port of the destination.
func TestCompare(t *testing.T) {
	l := keys() // in order, as they are made
	for i, a := range l {
		for j, b := range l {
			want := 0
			if i < j {
				want = -1
			} else if i > j {
				want = 1
			}
			if got := Compare(a, b); got != want {
				t.Fatal(a, b, got, want)
			}
		}
	}
}

// P3.6: keys that differ in one part alone are ordered by it, as numbers without a sign.
func TestCompareOnePart(t *testing.T) {
	k := api.Key{Proto: 6, Src: 5, Dst: 5, SrcPort: 5, DstPort: 5}
	for part, step := range []func(*api.Key){
		func(k *api.Key) { k.Proto++ }, func(k *api.Key) { k.Src++ }, func(k *api.Key) { k.SrcPort++ }, func(k *api.Key) { k.Dst++ }, func(k *api.Key) { k.DstPort++ },
		func(k *api.Key) { k.Proto += 128 }, func(k *api.Key) { k.Src += 1 << 31 }, func(k *api.Key) { k.SrcPort += 1 << 15 }, func(k *api.Key) { k.Dst += 1 << 31 }, func(k *api.Key) { k.DstPort += 1 << 15 },
	} {
		greater := k
		step(&greater)
		if Compare(k, greater) != -1 || Compare(greater, k) != 1 || Compare(greater, greater) != 0 {
			t.Error(part, Compare(k, greater), Compare(greater, k))
		}
	}
	for _, c := range [][2]api.Key{ // a part before decides, even if all after it say otherwise
		{{Proto: 1, Src: 9, Dst: 9, SrcPort: 9, DstPort: 9}, {Proto: 2}}, {{Src: 1, Dst: 9, SrcPort: 9, DstPort: 9}, {Src: 2}}, {{SrcPort: 1, Dst: 9, DstPort: 9}, {SrcPort: 2}}, {{Dst: 1, DstPort: 9}, {Dst: 2}},
	} {
		if Compare(c[0], c[1]) != -1 || Compare(c[1], c[0]) != 1 {
			t.Error(c)
		}
	}
}

// P3.6: keys can be sorted by their order.
func TestSortKeys(t *testing.T) {
	want := keys()
	got := slices.Clone(want)
	slices.Reverse(got)
	slices.SortFunc(got, Compare)
	if !slices.Equal(got, want) {
		t.Error("the keys are not in order")
	}
}

// P3.6: the text of a key is its protocol and both ends; P3.7: it is read back, and other keys have other texts.
func TestKeyText(t *testing.T) {
	if got := KeyText(api.Key{Proto: 6, Src: ip(10, 0, 0, 1), SrcPort: 80, Dst: ip(10, 0, 0, 2), DstPort: 90}); got != "6 10.0.0.1:80 10.0.0.2:90" {
		t.Error(got)
	}
	if got := KeyText(api.Key{}); got != "0 0.0.0.0:0 0.0.0.0:0" {
		t.Error(got)
	}
	seen := map[string]bool{}
	for _, k := range keys() {
		s := KeyText(k)
		if want := fmt.Sprintf("%d %s:%d %s:%d", k.Proto, Text(k.Src), k.SrcPort, Text(k.Dst), k.DstPort); s != want {
			t.Error(k, s, want)
		}
		if got, e := ReadKey(s); got != k || e != api.OK {
			t.Error(s, got, e)
		}
		if seen[s] {
			t.Error("one text of two keys:", s)
		}
		seen[s] = true
	}
}

// P3.6: what is no text of a key is ErrText, and the key is zero.
func TestReadKeyRefuses(t *testing.T) {
	for _, s := range []string{
		"", " ", "  ", ":", "x", "6", "6 ", "6 10.0.0.1:80", "6 10.0.0.1:80 ", "10.0.0.1:80 10.0.0.2:90", "6 10.0.0.1:80 10.0.0.2:90 ", " 6 10.0.0.1:80 10.0.0.2:90", "6  10.0.0.1:80 10.0.0.2:90", "6 10.0.0.1:80  10.0.0.2:90", "6 10.0.0.1:80 10.0.0.2:90 x", "6 10.0.0.1:80 10.0.0.2:90\n", "6\t10.0.0.1:80 10.0.0.2:90", "6 10.0.0.1:80\t10.0.0.2:90",
		"06 10.0.0.1:80 10.0.0.2:90", "+6 10.0.0.1:80 10.0.0.2:90", "-6 10.0.0.1:80 10.0.0.2:90", "256 10.0.0.1:80 10.0.0.2:90", "262 10.0.0.1:80 10.0.0.2:90", "65542 10.0.0.1:80 10.0.0.2:90", "tcp 10.0.0.1:80 10.0.0.2:90",
		"6 10.0.0.1 10.0.0.2:90", "6 10.0.0.1:80 10.0.0.2", "6 10.0.0.1: 10.0.0.2:90", "6 10.0.0.1:80 10.0.0.2:", "6 :80 10.0.0.2:90", "6 10.0.0.1:80 :90", "6 10.0.0.1::80 10.0.0.2:90", "6 10.0.0.1:80: 10.0.0.2:90", "6 10.0.0.1:80:80 10.0.0.2:90", "6 80:10.0.0.1 10.0.0.2:90", "6 10.0.0.1.80 10.0.0.2:90", "6 10.0.0.1:80 10.0.0.2:90:90", "6:10.0.0.1:80:10.0.0.2:90",
		"6 10.0.0.1:080 10.0.0.2:90", "6 10.0.0.1:80 10.0.0.2:090", "6 10.0.0.1:65536 10.0.0.2:90", "6 10.0.0.1:80 10.0.0.2:65536", "6 10.0.0.1:-80 10.0.0.2:90", "6 10.0.0.1:80 10.0.0.2:+90", "6 10.0.0.1:* 10.0.0.2:90", "6 10.0.0.1:80 10.0.0.2:1-2",
		"6 10.0.0.01:80 10.0.0.2:90", "6 10.0.0.1:80 10.0.0.02:90", "6 10.0.0.256:80 10.0.0.2:90", "6 10.0.0.1:80 10.0.0.256:90", "6 10.0.0:80 10.0.0.2:90", "6 10.0.0.1:80 10.0.2:90", "6 10.0.0.1/32:80 10.0.0.2:90", "\xff 10.0.0.1:80 10.0.0.2:90",
		strings.Repeat(" ", 100000), strings.Repeat(":", 100000), "6 10.0.0.1:80 10.0.0.2:" + strings.Repeat("9", 100000),
	} {
		if got, e := ReadKey(s); got != (api.Key{}) || e != ErrText {
			t.Errorf("%.60q: %v, %d", s, got, e)
		}
	}
}

// P3.6: texts next to that of a key are read only if they are ones themselves.
func TestReadKeySpoilt(t *testing.T) {
	end := `([0-9]+)\.([0-9]+)\.([0-9]+)\.([0-9]+):([0-9]+)`
	shape := regexp.MustCompile(`\A([0-9]+) ` + end + " " + end + `\z`)
	for _, k := range keys() {
		for s := range spoilt(KeyText(k)) {
			var want api.Key
			l, ok := numbers(shape, s, 255, 255, 255, 255, 255, 65535, 255, 255, 255, 255, 65535)
			if ok {
				var n [11]uint32
				for i, x := range l {
					n[i] = uint32(x)
				}
				want = api.Key{Proto: uint8(n[0]), Src: ip(n[1], n[2], n[3], n[4]), SrcPort: uint16(n[5]), Dst: ip(n[6], n[7], n[8], n[9]), DstPort: uint16(n[10])}
			}
			if got, e := ReadKey(s); got != want || (e == api.OK) != ok || !ok && e != ErrText {
				t.Errorf("%q: %v, %d; want %v, %v", s, got, e, want, ok)
			}
		}
	}
}
