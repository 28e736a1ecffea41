package addr

import (
	"fmt"
	"regexp"
	"strings"
	"testing"

	"baffle/api"
)

// ends are ports at which ranges begin and end.
var ends = []uint16{0, 1, 2, 9, 10, 79, 80, 81, 99, 100, 255, 256, 1023, 1024, 9999, 10000, 32767, 32768, 65533, 65534, 65535}

// P3.5: a range is right if it does not end before it begins, and it has the ports from one end to the other.
func TestRanges(t *testing.T) {
	for _, from := range ends {
		for _, to := range ends {
			r := api.Range{From: from, To: to}
			if RightRange(r) != (from <= to) {
				t.Error(r)
			}
			for _, port := range ends {
				if got, want := In(r, port), from <= port && port <= to; got != want {
					t.Error(r, port, got)
				}
			}
		}
	}
}

// P3.5: the text of a range is a star, one number, or two with a minus between them; ErrRange if it is not right.
func TestRangeText(t *testing.T) {
	for s, r := range map[string]api.Range{
		"*": {From: 0, To: 65535}, "80": {From: 80, To: 80}, "1-1023": {From: 1, To: 1023}, "0": {}, "65535": {From: 65535, To: 65535}, "0-65534": {From: 0, To: 65534}, "1-65535": {From: 1, To: 65535}, "0-1": {From: 0, To: 1}, "65534-65535": {From: 65534, To: 65535}, "9-10": {From: 9, To: 10},
	} {
		if got, e := RangeText(r); got != s || e != api.OK {
			t.Error(r, got, e)
		}
		if got, e := ReadRange(s); got != r || e != api.OK {
			t.Error(s, got, e)
		}
	}
	for _, r := range []api.Range{{From: 9, To: 8}, {From: 1, To: 0}, {From: 65535, To: 0}, {From: 65535, To: 65534}, {From: 256, To: 255}} {
		if got, e := RangeText(r); got != "" || e != ErrRange {
			t.Error(r, got, e)
		}
	}
}

// P3.5: what is no text of a right range is ErrText, and the range is zero.
func TestReadRangeRefuses(t *testing.T) {
	for _, s := range []string{
		"", "-", "--", "**", "*-*", "* ", " *", "0-*", "*-65535", "0-65535", "80-80", "0-0", "65535-65535", "9-8", "65535-0", "1-0", "80-", "-80", "80--81", "80-81-", "-80-81", "80-81-82", "80 81", "80 - 81", "80,81", "80:81", "80/81",
		"080", "00", "01-2", "1-02", "0-065534", "+80", "-0", "80-+81", "+80-81", "65536", "65536-65537", "0-65536", "1-65536", "80-131072", "99999", "100000", "4294967376", "18446744073709551696", "80-4294967377",
		"a", "0x50", "8_0", "80.0", "8e1", "80\n", "\n80", "80\x00", "٣", "８0", "\xff", "80-\xff", "ALL",
		strings.Repeat("-", 100000), strings.Repeat("9", 100000), "1-" + strings.Repeat("0", 100000) + "2",
	} {
		if got, e := ReadRange(s); got != (api.Range{}) || e != ErrText {
			t.Errorf("%.40q: %v, %d", s, got, e)
		}
	}
}

// P3.5: texts next to that of a range are read only if they are ones themselves; P3.7: what is written is read back.
func TestReadRangeSpoilt(t *testing.T) {
	one, two := regexp.MustCompile(`\A([0-9]+)\z`), regexp.MustCompile(`\A([0-9]+)-([0-9]+)\z`)
	read := func(s string) (api.Range, bool) {
		if s == "*" {
			return api.Range{From: 0, To: 65535}, true
		}
		if l, ok := numbers(one, s, 65535); ok {
			return api.Range{From: uint16(l[0]), To: uint16(l[0])}, true
		}
		if l, ok := numbers(two, s, 65535, 65535); ok && l[0] < l[1] && (l[0] > 0 || l[1] < 65535) {
			return api.Range{From: uint16(l[0]), To: uint16(l[1])}, true
		}
		return api.Range{}, false
	}
	seen := map[string]api.Range{}
	for i, from := range ends {
		for _, to := range ends[i:] {
			r := api.Range{From: from, To: to}
			text, e := RangeText(r)
			if back, f := ReadRange(text); e != api.OK || f != api.OK || back != r {
				t.Fatal(r, text, e, back, f)
			}
			if other, ok := seen[text]; ok {
				t.Fatal("one text of two ranges:", text, r, other)
			}
			seen[text] = r
			for s := range spoilt(text) {
				want, ok := read(s)
				if got, e := ReadRange(s); got != want || (e == api.OK) != ok || !ok && e != ErrText {
					t.Errorf("%q: %v, %d; want %v, %v", s, got, e, want, ok)
				}
			}
		}
	}
}

// P3.5, P3.7: every port is a range of its own, and is read back.
func TestEveryPort(t *testing.T) {
	for port := range 1 << 16 {
		r := api.Range{From: uint16(port), To: uint16(port)}
		s, e := RangeText(r)
		if s != fmt.Sprint(port) || e != api.OK {
			t.Fatal(port, s, e)
		}
		if got, e := ReadRange(s); got != r || e != api.OK {
			t.Fatal(s, got, e)
		}
	}
}
