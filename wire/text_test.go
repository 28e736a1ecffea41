package wire

import (
	"slices"
	"strings"
	"testing"

	"baffle/api"
)

// P1.4: the text of bytes has two small digits for each byte, the upper four bits first.
func TestTextOfBytes(t *testing.T) {
	for s, b := range map[string][]byte{"": {}, "00": {0}, "001fff": {0, 31, 255}, "0123456789abcdef": {0x01, 0x23, 0x45, 0x67, 0x89, 0xab, 0xcd, 0xef}} {
		given := slices.Clone(b)
		if got, e := Hex(given); got != s || e != api.OK || !slices.Equal(given, b) {
			t.Error(s, got, e, given)
		}
		if got, e := Unhex(s); !slices.Equal(got, b) || e != api.OK {
			t.Error(s, got, e)
		}
	}
	if s, e := Hex(nil); s != "" || e != api.OK {
		t.Error(s, e)
	}
}

// P1.4: a string with an odd number of bytes, or with another byte than a digit anywhere, is no text of bytes.
func TestNoText(t *testing.T) {
	for _, s := range []string{"1", "000", "0g", "g0", "001FFF", "0A", "A0", " 0", "0 ", "00 ", "00 00", "0x00", "0x", "-1", "+1", "00\n", "\x00\x00", "\xff0", "0\xff", "é", "0/", "0:", "0`", "0@", "0G", strings.Repeat("00", 50) + "0x"} {
		if b, e := Unhex(s); len(b) != 0 || e != ErrText {
			t.Errorf("%q: %v, %d", s, b, e)
		}
	}
}

// P1.4: both have a limit, which is asked for first.
func TestTextLimit(t *testing.T) {
	b := make([]byte, MaxBytes+1)
	b[MaxBytes-1] = 0xa5
	if s, e := Hex(b); s != "" || e != api.ErrLong {
		t.Error(len(s), e)
	}
	s, e := Hex(b[:MaxBytes])
	if len(s) != 2*MaxBytes || e != api.OK || !strings.HasSuffix(s, "00a5") {
		t.Error(len(s), e)
	}
	if got, e := Unhex(s); !slices.Equal(got, b[:MaxBytes]) || e != api.OK {
		t.Error(len(got), e)
	}
	for _, long := range []string{s + "0", s + "00", s + "x", strings.Repeat("x", 2*MaxBytes+2)} {
		if got, e := Unhex(long); len(got) != 0 || e != api.ErrLong {
			t.Error(len(long), len(got), e)
		}
	}
	for _, wrong := range []string{s[1:], s[1:] + "x", "x" + s[1:]} {
		if got, e := Unhex(wrong); len(got) != 0 || e != ErrText {
			t.Error(len(wrong), len(got), e)
		}
	}
}

// P1.5: texts and bytes belong to one another, one by one.
func TestTextsAndBytes(t *testing.T) {
	texts := 0
	for i := range 1 << 16 {
		s := string([]byte{byte(i >> 8), byte(i)})
		b, e := Unhex(s)
		if e == ErrText {
			continue
		}
		texts++
		if back, e := Hex(b); len(b) != 1 || back != s || e != api.OK {
			t.Errorf("%q: %v, %q, %d", s, b, back, e)
		}
	}
	if texts != 256 {
		t.Error(texts, "strings of two bytes are texts")
	}
	for i := range 1 << 16 {
		b := []byte{byte(i >> 8), byte(i)}
		s, _ := Hex(b)
		if back, e := Unhex(s); len(s) != 4 || !slices.Equal(back, b) || e != api.OK {
			t.Error(b, s, back, e)
		}
	}
}

// The numbers that the chapter gives.
func TestConstants(t *testing.T) {
	if MaxBytes != 131072 || ErrText != 10 {
		t.Error(MaxBytes, ErrText)
	}
}
