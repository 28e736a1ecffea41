package span

import (
	"math/rand"
	"slices"
	"testing"

	"baffle/api"
)

// P4.4: each span has the prefixes that cover it, one span after the other.
func TestPrefixes(t *testing.T) {
	pre := func(a uint32, n uint8) api.Prefix { return api.Prefix{Addr: a, Len: n} }
	for _, c := range []struct {
		s    Set
		want []api.Prefix
	}{
		{nil, nil}, {Set{}, nil}, {Set{{1, 6}}, []api.Prefix{pre(1, 32), pre(2, 31), pre(4, 31), pre(6, 32)}}, {Set{{0, top}}, []api.Prefix{{}}}, {Set{{0, 0}}, []api.Prefix{pre(0, 32)}}, {Set{{top, top}}, []api.Prefix{pre(top, 32)}}, {Set{{0, 0}, {top, top}}, []api.Prefix{pre(0, 32), pre(top, 32)}}, {Set{{0, 3}, {8, 9}, {11, 11}}, []api.Prefix{pre(0, 30), pre(8, 31), pre(11, 32)}}, {Set{{1 << 31, top}}, []api.Prefix{pre(1<<31, 1)}}, {Set{{3, 4}, {6, 7}}, []api.Prefix{pre(3, 32), pre(4, 32), pre(6, 31)}}, {Set{{167772160, 184549375}}, []api.Prefix{pre(167772160, 8)}},
	} {
		if got, e := Prefixes(c.s); !slices.Equal(got, c.want) || e != api.OK {
			t.Error(c.s, got, e)
		}
	}
	if got, e := Prefixes(Set{{1, top - 1}}); len(got) != 62 || e != api.OK {
		t.Error(len(got), e)
	}
	long := make(Set, MaxSpans)
	var want []api.Prefix
	for i := range uint32(MaxSpans) {
		long[i] = Span{8*i + 1, 8*i + 6}
		want = append(want, pre(8*i+1, 32), pre(8*i+2, 31), pre(8*i+4, 31), pre(8*i+6, 32))
	}
	if got, e := Prefixes(long); !slices.Equal(got, want) || len(got) != 4*MaxSpans || e != api.OK {
		t.Error(len(got), e)
	}
}

// P4.4: the set of prefixes has all their addresses, in whatever order they come, whether they meet or touch.
func TestOfPrefixes(t *testing.T) {
	pre := func(a uint32, n uint8) api.Prefix { return api.Prefix{Addr: a, Len: n} }
	for _, c := range []struct {
		l    []api.Prefix
		want Set
	}{
		{nil, nil}, {[]api.Prefix{}, nil}, {[]api.Prefix{{}}, Set{{0, top}}}, {[]api.Prefix{pre(0, 32)}, Set{{0, 0}}}, {[]api.Prefix{pre(top, 32)}, Set{{top, top}}}, {[]api.Prefix{pre(167772160, 8)}, Set{{167772160, 184549375}}}, {[]api.Prefix{pre(4, 31), pre(1, 32), pre(6, 32), pre(2, 31)}, Set{{1, 6}}}, {[]api.Prefix{pre(1<<31, 1), pre(0, 1)}, Set{{0, top}}}, {[]api.Prefix{pre(8, 30), pre(9, 32), pre(8, 31)}, Set{{8, 11}}}, {[]api.Prefix{pre(top, 32), pre(0, 32)}, Set{{0, 0}, {top, top}}}, {[]api.Prefix{pre(5, 32), pre(5, 32)}, Set{{5, 5}}}, {[]api.Prefix{pre(5, 32), {}}, Set{{0, top}}},
	} {
		if got, e := OfPrefixes(c.l); !slices.Equal(got, c.want) || e != api.OK {
			t.Error(c.l, got, e)
		}
	}
	for _, w := range []api.Prefix{{Addr: 1}, {Len: 33}, {Len: 255}, {Addr: 3, Len: 31}, {Addr: 167772161, Len: 8}, {Addr: top, Len: 31}, {Addr: top, Len: 64}, {Addr: 1 << 31}} {
		for _, l := range [][]api.Prefix{{w}, {{}, w}, {w, {}}, {pre(1, 32), w, pre(2, 32)}, append(slices.Repeat([]api.Prefix{{}}, MaxSpans-1), w)} {
			if got, e := OfPrefixes(l); got != nil || e != api.ErrArg {
				t.Error(w, len(l), got, e)
			}
		}
		if got, e := OfPrefixes(append(slices.Repeat([]api.Prefix{{}}, MaxSpans), w)); got != nil || e != api.ErrMany {
			t.Error(w, got, e)
		}
	}
	if got, e := OfPrefixes(slices.Repeat([]api.Prefix{pre(4, 30)}, MaxSpans)); !slices.Equal(got, Set{{4, 7}}) || e != api.OK {
		t.Error(got, e)
	}
	if got, e := OfPrefixes(slices.Repeat([]api.Prefix{pre(4, 30)}, MaxSpans+1)); got != nil || e != api.ErrMany {
		t.Error(got, e)
	}
	var l []api.Prefix
	for _, x := range chain(MaxSpans, 9) {
		l = append(l, pre(x.From, 32))
	}
	slices.Reverse(l)
	if got, e := OfPrefixes(l); !slices.Equal(got, chain(MaxSpans, 9)) || e != api.OK {
		t.Error(len(got), e)
	}
}

// P4.6: the prefixes of a set lead back to it, in any order.
func TestPrefixesLeadBack(t *testing.T) {
	r := rand.New(rand.NewSource(44))
	var sets []Set
	for bits := range 256 {
		for _, base := range bases {
			sets = append(sets, small(bits, base))
		}
	}
	for i := range 200 {
		s, _ := Of(random(r, 30, uint32(i), top-uint32(i)))
		sets = append(sets, s)
	}
	for _, s := range append(sets, nil, Set{{0, top}}, Set{{1, top - 1}}, chain(MaxSpans, 1)) {
		l, e := Prefixes(s)
		r.Shuffle(len(l), func(i, j int) { l[i], l[j] = l[j], l[i] })
		if got, f := OfPrefixes(l); !slices.Equal(got, s) || e+f != api.OK {
			t.Fatal(s, got, e, f)
		}
	}
}
