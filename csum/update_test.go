package csum

import "testing"

// P2.3: Update is 65535 less the folded sum of 65535 - check, 65535 - old, and new.
func TestUpdate(t *testing.T) {
	for _, c := range []struct{ check, old, new, want uint16 }{
		{64505, 258, 259, 64504}, {65277, 258, 0, 0}, {64505, 258, 258, 64505}, {64504, 259, 258, 64505},
		{65535, 0, 0, 0}, {65535, 0, 1, 65534}, {65535, 0, 65535, 0}, {65535, 65535, 0, 65535}, {65535, 65535, 1, 65534},
		{0, 0, 0, 0}, {0, 65535, 65535, 0}, {0, 65535, 0, 0}, {0, 0, 65535, 0}, {0, 0, 1, 65534}, {0, 1, 0, 1}, {65534, 1, 0, 0},
	} {
		if got := Update(c.check, c.old, c.new); got != c.want {
			t.Error(c, got)
		}
	}
	for _, check := range corners {
		for _, old := range corners {
			for _, new := range corners {
				if got, want := Update(check, old, new), 65535-carried(65535-check, 65535-old, new); got != want {
					t.Error(check, old, new, got, want)
				}
			}
		}
	}
}

// P2.3: Update32 is Update of the upper 16 bits, and then of the lower ones, which are not mixed up.
func TestUpdate32(t *testing.T) {
	for _, c := range []struct {
		check    uint16
		old, new uint32
		want     uint16
	}{
		{64505, 0x01020304, 0x01020304, 64505}, {64505, 0x01020304, 0x01030304, 64504}, {64505, 0x01020304, 0x01020305, 64504},
		{64505, 0x01020304, 0x01030305, 64503}, {64505, 0x01020304, 0x03040102, 64505}, {64505, 0x01020304, 0, 0},
		{65535, 0, 0, 0}, {65535, 0, 0x00010000, 65534}, {65535, 0, 1, 65534}, {65535, 0xffffffff, 0, 65535}, {65535, 0xffff0000, 0, 0}, {65535, 0x0000ffff, 0, 0}, {0, 0, 0xffffffff, 0},
	} {
		if got := Update32(c.check, c.old, c.new); got != c.want {
			t.Error(c, got)
		}
	}
	for _, check := range corners {
		for i, up := range corners {
			for j, low := range corners {
				toUp, toLow := corners[(i+3*j+1)%len(corners)], corners[(7*i+j+2)%len(corners)]
				first := 65535 - carried(65535-check, 65535-up, toUp)
				want := 65535 - carried(65535-first, 65535-low, toLow)
				if got := Update32(check, uint32(up)<<16|uint32(low), uint32(toUp)<<16|uint32(toLow)); got != want {
					t.Error(check, up, low, toUp, toLow, got, want)
				}
			}
		}
	}
}

// R4: an update depends on its arguments only, not on those before.
func TestUpdatesAreApart(t *testing.T) {
	for range 3 {
		if a, b := Update(64505, 258, 259), Update32(64505, 0x01020304, 0x01030305); a != 64504 || b != 64503 {
			t.Error(a, b)
		}
	}
}
