package addr

import (
	"math"
	"slices"
	"testing"

	"baffle/api"
)

// halved appends the prefixes that cover a range by halving: a prefix that is all in the range is one, and of any other one both halves are gone through.
func halved(l []api.Prefix, p api.Prefix, from, to uint32) []api.Prefix {
	least, after := bounds(p)
	switch {
	case after <= uint64(from) || uint64(to) < least:
		return l
	case uint64(from) <= least && after <= uint64(to)+1:
		return append(l, p)
	}
	l = halved(l, api.Prefix{Addr: p.Addr, Len: p.Len + 1}, from, to)
	return halved(l, api.Prefix{Addr: p.Addr + 1<<(31-p.Len), Len: p.Len + 1}, from, to)
}

// covered checks all that is said of the cover of a range that does not end before it begins.
func covered(t *testing.T, from, to uint32) []api.Prefix {
	t.Helper()
	got, e := Cover(from, to)
	if want := halved(nil, api.Prefix{}, from, to); !slices.Equal(got, want) || e != api.OK {
		t.Fatal(from, to, got, want, e)
	}
	next := uint64(from)
	for i, p := range got {
		least, after := bounds(p)
		if !Right(p) || least != next {
			t.Fatal("a gap, or an overlap:", from, to, got)
		}
		if i > 0 && got[i-1].Len == p.Len && p.Len > 0 && got[i-1].Addr>>(32-p.Len)^1 == p.Addr>>(32-p.Len) {
			t.Fatal("two that could be one:", got[i-1], p)
		}
		next = after
	}
	if next != uint64(to)+1 || len(got) > 62 {
		t.Fatal(from, to, got)
	}
	return got
}

// P3.4: the covers that the chapter has as examples, that of one address, and that of all of them.
func TestCover(t *testing.T) {
	for _, c := range []struct {
		from, to uint32
		want     []api.Prefix
	}{
		{ip(10, 0, 0, 1), ip(10, 0, 0, 6), []api.Prefix{{Addr: ip(10, 0, 0, 1), Len: 32}, {Addr: ip(10, 0, 0, 2), Len: 31}, {Addr: ip(10, 0, 0, 4), Len: 31}, {Addr: ip(10, 0, 0, 6), Len: 32}}},
		{0, math.MaxUint32, []api.Prefix{{}}},
		{0, 0, []api.Prefix{{Len: 32}}}, {7, 7, []api.Prefix{{Addr: 7, Len: 32}}}, {math.MaxUint32, math.MaxUint32, []api.Prefix{{Addr: math.MaxUint32, Len: 32}}},
		{0, 1, []api.Prefix{{Len: 31}}}, {1, 2, []api.Prefix{{Addr: 1, Len: 32}, {Addr: 2, Len: 32}}}, {0, 2, []api.Prefix{{Len: 31}, {Addr: 2, Len: 32}}},
		{0, 1<<31 - 1, []api.Prefix{{Len: 1}}}, {1 << 31, math.MaxUint32, []api.Prefix{{Addr: 1 << 31, Len: 1}}}, {1<<31 - 1, 1 << 31, []api.Prefix{{Addr: 1<<31 - 1, Len: 32}, {Addr: 1 << 31, Len: 32}}},
		{math.MaxUint32 - 1, math.MaxUint32, []api.Prefix{{Addr: math.MaxUint32 - 1, Len: 31}}}, {math.MaxUint32 - 2, math.MaxUint32, []api.Prefix{{Addr: math.MaxUint32 - 2, Len: 32}, {Addr: math.MaxUint32 - 1, Len: 31}}},
		{ip(10, 0, 0, 0), ip(10, 255, 255, 255), []api.Prefix{{Addr: ip(10, 0, 0, 0), Len: 8}}},
	} {
		if got := covered(t, c.from, c.to); !slices.Equal(got, c.want) {
			t.Error(c, got)
		}
	}
}

// P3.4: covers have just the addresses of the range, each in one prefix, and are as few as halving finds, in order.
func TestCovers(t *testing.T) {
	for _, base := range []uint32{0, ip(10, 0, 0, 0) - 32, 1<<31 - 32, math.MaxUint32 - 63} {
		for i := range uint32(64) {
			for j := i; j < 64; j++ {
				covered(t, base+i, base+j)
			}
		}
	}
	for _, from := range corners {
		for _, to := range corners {
			if from <= to {
				covered(t, from, to)
			}
		}
	}
	for i := range uint32(3000) {
		a, b := i*2654435761, (i+7)*2246822519
		covered(t, min(a, b), max(a, b))
	}
}

// P3.4: no fewer prefixes could cover: the fewest are counted, for ranges of a few addresses, by trying all that may begin where the rest does.
func TestFewest(t *testing.T) {
	for from := range uint32(33) {
		fewest := make([]int, 34) // of the rest from an address on to 32
		for to := from; to < 33; to++ {
			fewest[to+1] = 0
			for at := int(to); at >= int(from); at-- {
				fewest[at] = math.MaxInt
				for size := 1; at%size == 0 && at+size <= int(to)+1; size *= 2 {
					fewest[at] = min(fewest[at], 1+fewest[at+size])
				}
			}
			if got, e := Cover(from, to); len(got) != fewest[from] || e != api.OK {
				t.Error(from, to, got, fewest[from])
			}
		}
	}
}

// P3.4: ErrArg if the range ends before it begins.
func TestCoverRefuses(t *testing.T) {
	for _, from := range corners {
		for _, to := range corners {
			if from <= to {
				continue
			}
			if got, e := Cover(from, to); len(got) != 0 || e != api.ErrArg {
				t.Error(from, to, got, e)
			}
		}
	}
}

// P3.7: at most 62 prefixes cover a range, and there is one that takes as many.
func TestMostPrefixes(t *testing.T) {
	if got := covered(t, 1, math.MaxUint32-1); len(got) != 62 {
		t.Error(len(got))
	}
	if got := covered(t, 1, math.MaxUint32); len(got) != 32 {
		t.Error(len(got))
	}
}

// R3: two covers share no memory.
func TestCoversAreApart(t *testing.T) {
	a, _ := Cover(1, 6)
	b, _ := Cover(1, 6)
	whole := slices.Clone(b)
	for i := range a[:cap(a)] {
		a[:cap(a)][i] = api.Prefix{Addr: 9, Len: 9}
	}
	if c, _ := Cover(1, 6); !slices.Equal(b, whole) || !slices.Equal(c, whole) {
		t.Error(b, c)
	}
}
