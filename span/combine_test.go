package span

import (
	"math/rand"
	"slices"
	"testing"

	"baffle/api"
)

// P4.2: the examples, the empty set, that of all numbers, and sets that touch or meet at either end.
func TestCombine(t *testing.T) {
	all := Set{{0, top}}
	for _, c := range []struct{ a, b, union, common, without Set }{
		{Set{{1, 3}}, Set{{4, 6}}, Set{{1, 6}}, nil, Set{{1, 3}}},
		{Set{{1, 5}, {9, 9}}, Set{{4, 9}}, Set{{1, 9}}, Set{{4, 5}, {9, 9}}, Set{{1, 3}}},
		{nil, nil, nil, nil, nil}, {Set{}, Set{}, nil, nil, nil}, {nil, all, all, nil, nil}, {all, nil, all, nil, all}, {all, all, all, all, nil},
		{all, Set{{0, 0}}, all, Set{{0, 0}}, Set{{1, top}}}, {all, Set{{top, top}}, all, Set{{top, top}}, Set{{0, top - 1}}}, {Set{{0, 0}}, Set{{top, top}}, Set{{0, 0}, {top, top}}, nil, Set{{0, 0}}}, {Set{{0, 0}, {top, top}}, all, all, Set{{0, 0}, {top, top}}, nil},
		{Set{{0, top - 1}}, Set{{top, top}}, all, nil, Set{{0, top - 1}}}, {Set{{1, top}}, Set{{0, 0}}, all, nil, Set{{1, top}}}, {Set{{0, 5}}, Set{{5, top}}, all, Set{{5, 5}}, Set{{0, 4}}}, {Set{{1, 2}, {4, 5}}, Set{{3, 3}}, Set{{1, 5}}, nil, Set{{1, 2}, {4, 5}}},
		{Set{{1, 9}}, Set{{3, 3}, {5, 6}}, Set{{1, 9}}, Set{{3, 3}, {5, 6}}, Set{{1, 2}, {4, 4}, {7, 9}}}, {Set{{3, 3}, {5, 6}}, Set{{1, 9}}, Set{{1, 9}}, Set{{3, 3}, {5, 6}}, nil}, {Set{{1, 2}}, Set{{4, 5}}, Set{{1, 2}, {4, 5}}, nil, Set{{1, 2}}},
	} {
		union, e := Union(c.a, c.b)
		common, f := Common(c.a, c.b)
		without, g := Without(c.a, c.b)
		within, h := Within(c.a, c.b)
		if !slices.Equal(union, c.union) || !slices.Equal(common, c.common) || !slices.Equal(without, c.without) || within != (len(c.without) == 0) || e+f+g+h != api.OK {
			t.Error(c.a, c.b, union, common, without, within, e, f, g, h)
		}
	}
	for _, c := range []struct{ s, want Set }{
		{Set{{1, 3}}, Set{{0, 0}, {4, top}}}, {nil, all}, {Set{}, all}, {all, nil}, {Set{{0, 0}}, Set{{1, top}}}, {Set{{top, top}}, Set{{0, top - 1}}}, {Set{{0, 0}, {top, top}}, Set{{1, top - 1}}}, {Set{{1, top - 1}}, Set{{0, 0}, {top, top}}}, {Set{{5, 5}}, Set{{0, 4}, {6, top}}}, {Set{{1, 2}, {4, 4}}, Set{{0, 0}, {3, 3}, {5, top}}},
	} {
		if got, e := Others(c.s); !slices.Equal(got, c.want) || e != api.OK {
			t.Error(c.s, got, e)
		}
	}
}

// P4.2: all sets of eight numbers with all of them.
func TestCombineSmall(t *testing.T) {
	for _, base := range bases {
		for i := range 256 {
			a := small(i, base)
			for j := range 256 {
				b := small(j, base)
				union, e := Union(a, b)
				common, f := Common(a, b)
				without, g := Without(a, b)
				within, h := Within(a, b)
				if e+f+g+h != api.OK || !slices.Equal(union, small(i|j, base)) || !slices.Equal(common, small(i&j, base)) || !slices.Equal(without, small(i&^j, base)) || within != (i&^j == 0) {
					t.Fatal(a, b, union, common, without, within, e, f, g, h)
				}
			}
			if got, e := Others(a); !slices.Equal(got, drawn(func(n uint32) bool { return !has(a, n) }, a)) || e != api.OK {
				t.Fatal(a, got, e)
			}
		}
	}
}

// P4.2: sets of many spans, which are drawn number by number.
func TestCombineRandom(t *testing.T) {
	r := rand.New(rand.NewSource(42))
	for i := range 300 {
		least, most := uint32(0), uint32(top)
		if i%2 == 1 {
			least, most = bases[i%4], bases[i%4]+400
		}
		a, e := Of(random(r, 40, least, most/uint32(i%5+1)))
		b, f := Of(random(r, 40, least/uint32(i%3+1), most))
		union, g := Union(a, b)
		common, h := Common(a, b)
		without, k := Without(a, b)
		others, l := Others(a)
		within, m := Within(a, b)
		if e+f+g+h+k+l+m != api.OK {
			t.Fatal(e, f, g, h, k, l, m)
		}
		left := drawn(func(n uint32) bool { return has(a, n) && !has(b, n) }, a, b)
		for _, c := range []struct{ got, want Set }{
			{union, drawn(func(n uint32) bool { return has(a, n) || has(b, n) }, a, b)}, {common, drawn(func(n uint32) bool { return has(a, n) && has(b, n) }, a, b)}, {without, left}, {others, drawn(func(n uint32) bool { return !has(a, n) }, a)},
		} {
			if !slices.Equal(c.got, c.want) {
				t.Fatal(a, b, c.got, c.want)
			}
		}
		if within != (len(left) == 0) {
			t.Fatal(a, b, within)
		}
	}
}

// P4.2: arguments may have 4096 spans, and results more than that.
func TestMoreThanMaxSpans(t *testing.T) {
	evens, odds, far := chain(MaxSpans, 2), chain(MaxSpans, 3), chain(MaxSpans, 100000)
	if got, e := Union(evens, far); !slices.Equal(got, slices.Concat(evens, far)) || len(got) != 2*MaxSpans || e != api.OK {
		t.Error(len(got), e)
	}
	if got, e := Union(odds, evens); !slices.Equal(got, Set{{2, 2*MaxSpans + 1}}) || e != api.OK {
		t.Error(len(got), e)
	}
	if got, e := Common(evens, odds); len(got) != 0 || e != api.OK {
		t.Error(len(got), e)
	}
	if got, e := Common(evens, evens); !slices.Equal(got, evens) || e != api.OK {
		t.Error(len(got), e)
	}
	if got, e := Others(evens); len(got) != MaxSpans+1 || got[0] != (Span{0, 1}) || got[1] != (Span{3, 3}) || got[MaxSpans] != (Span{2*MaxSpans + 1, top}) || e != api.OK {
		t.Error(len(got), e)
	}
	wide := make(Set, MaxSpans) // every other one of their numbers is left out
	for i := range wide {
		wide[i] = Span{uint32(8 * i), uint32(8*i + 4)}
	}
	holes := make(Set, MaxSpans)
	for i := range holes {
		holes[i] = Span{uint32(8*i + 1), uint32(8*i + 3)}
	}
	if got, e := Without(wide, holes); len(got) != 2*MaxSpans || got[0] != (Span{0, 0}) || got[1] != (Span{4, 4}) || got[2*MaxSpans-1] != (Span{8*MaxSpans - 4, 8*MaxSpans - 4}) || e != api.OK {
		t.Error(len(got), e)
	}
	if got, e := Within(holes, wide); !got || e != api.OK {
		t.Error(got, e)
	}
	if got, e := Within(wide, holes); got || e != api.OK {
		t.Error(got, e)
	}
}

// P4.2: whoever needs no more of the chosen spans may stop.
func TestChosenStops(t *testing.T) {
	n := 0
	for range chosen(Set{{1, 2}, {5, 6}}, nil, func(inA, inB bool) bool { return true }) {
		if n++; n == 2 {
			break
		}
	}
	if n != 2 {
		t.Error(n)
	}
}
