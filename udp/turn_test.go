package udp

import (
	"slices"
	"testing"

	"baffle/api"
)

// turnFails checks that a datagram is not turned.
func turnFails(t *testing.T, b []byte, want api.Errno) {
	t.Helper()
	before := slices.Clone(b)
	if turned, e := Turn(b); turned != nil || e != want {
		t.Error("Turn:", b[:min(len(b), 60)], len(b), len(turned), e, want)
	}
	if !slices.Equal(b, before) {
		t.Error("the argument is modified:", b, before)
	}
}

// turns checks that a right datagram is turned, and back.
func turns(t *testing.T, b []byte) {
	t.Helper()
	before := slices.Clone(b)
	l := lengthOf(b)
	want := slices.Concat(b[2:4], b[0:2], b[4:l])
	turned, e := Turn(b)
	if !slices.Equal(turned, want) || e != api.OK {
		t.Error(b[:min(len(b), 60)], len(b), turned[:min(len(turned), 60)], len(turned), e)
	}
	back, e := Turn(turned)
	if !slices.Equal(back, b[:l]) || e != api.OK {
		t.Error(b[:min(len(b), 60)], len(b), back[:min(len(back), 60)], len(back), e)
	}
	if !slices.Equal(b, before) {
		t.Error("the argument is modified:", b, before)
	}
}

// P9.3: the ports are exchanged, and nothing else changes.
func TestTurn(t *testing.T) {
	if b, e := Turn(example); !slices.Equal(b, []byte{3, 232, 0, 53, 0, 11, 227, 182, 1, 2, 3}) || e != api.OK {
		t.Error(b, e)
	}
	for _, h := range headers() {
		for _, n := range []int{0, 1, 2, 3, 300} {
			b := packed(h, 5, 6, some(n))
			if h.SrcPort == 0 {
				turnFails(t, b, ErrPort)
				continue
			}
			turns(t, b)
			reads(t, b[:8+n], h, 8+n)
		}
	}
}

// P9.3: the bytes after a datagram are not turned.
func TestTurnNotBehind(t *testing.T) {
	for n := range 9 {
		for behind := range 9 {
			b := append(packed(exampleHeader, exampleSrc, exampleDst, some(n)), slices.Repeat([]byte{99}, behind)...)
			turns(t, b)
		}
	}
	long := packed(exampleHeader, 5, 6, some(70000))
	for _, l := range []int{8, 9, 255, 256, 65514, 65515, 65516, 65535} {
		turns(t, with2(long, 4, l))
		turns(t, with2(long, 4, l)[:l])
	}
}

// P9.3: the checksum stays, right or wrong, or not there.
func TestTurnAnySum(t *testing.T) {
	for check := range 1 << 16 {
		turns(t, with2(example, 6, check))
	}
}

// P9.3: a SrcPort of 0, alone or with a DstPort of 0, or with an error that comes before.
func TestTurnPorts(t *testing.T) {
	for port := range 1 << 16 {
		if b := with2(example, 0, port); port == 0 {
			turnFails(t, b, ErrPort)
		} else {
			turns(t, b)
		}
	}
	none := with2(example, 0, 0)
	for _, checked := range []int{0, 1, 65535} {
		turnFails(t, with2(none, 6, checked), ErrPort)
		turnFails(t, append(with2(none, 6, checked), 1, 2, 3), ErrPort)
		turnFails(t, with2(with2(none, 6, checked), 2, 0), ErrPort)
		for _, l := range []int{0, 7, 12, 65535} {
			turnFails(t, with2(with2(none, 6, checked), 4, l), ErrLength)
			turnFails(t, with2(with2(with2(none, 6, checked), 2, 0), 4, l), ErrLength)
		}
		for n := range 8 {
			turnFails(t, with2(none, 6, checked)[:n], ErrShort)
		}
	}
}

// P9.4: a turned datagram is verified between the same addresses if it was so before.
func TestTurnedIsVerified(t *testing.T) {
	for _, h := range headers() {
		if h.SrcPort == 0 {
			continue
		}
		for _, src := range addresses {
			for n := range 4 {
				dst := src*5 + 3
				b := packed(h, src, dst, some(n))
				turned, _ := Turn(b)
				if len(turned) != len(b) {
					t.Error(h, src, n, turned)
					continue
				}
				verifies(t, turned, src, dst, true)
				verifies(t, turned, dst, src, true)
				reads(t, turned, Header{h.DstPort, h.SrcPort, h.Checked}, 8+n)
				wrong, _ := Turn(with2(b, 6, int(sumOf(b))^0x0a00))
				verifies(t, wrong, src, dst, false)
			}
		}
	}
}
