package span

import (
	"math"
	"math/rand"
	"slices"
	"testing"

	"baffle/api"
)

// top is the greatest number.
const top = math.MaxUint32

// bases are where the eight numbers of a small set begin: at both ends, and in between.
var bases = []uint32{0, 1, 1000, 1<<31 - 4, top - 8, top - 7}

// small returns the right set of those of the eight numbers from base on whose bit is 1.
func small(bits int, base uint32) Set {
	var s Set
	for i := range uint32(8) {
		switch {
		case bits>>i&1 == 0:
		case i > 0 && bits>>(i-1)&1 == 1:
			s[len(s)-1].To = base + i
		default:
			s = append(s, Span{base + i, base + i})
		}
	}
	return s
}

// chain returns n spans of one number each, every other one from a number on: a right set.
func chain(n int, from uint32) Set {
	s := make(Set, n)
	for i := range s {
		s[i] = Span{from + 2*uint32(i), from + 2*uint32(i)}
	}
	return s
}

// has reports whether a span of a list has a number.
func has(l []Span, n uint32) bool {
	for _, x := range l {
		if n >= x.From && n <= x.To {
			return true
		}
	}
	return false
}

// drawn returns the right set of the numbers for which in holds, which is the same from each border of the lists to the next one.
func drawn(in func(n uint32) bool, lists ...[]Span) Set {
	borders := []uint64{0}
	for _, l := range lists {
		for _, x := range l {
			borders = append(borders, uint64(x.From), uint64(x.To)+1)
		}
	}
	slices.Sort(borders)
	borders = append(slices.Compact(borders), 1<<32)
	var s Set
	before := false // whether the numbers before the border are in
	for i, from := range borders[:len(borders)-1] {
		if from == 1<<32 {
			break
		}
		now, to := in(uint32(from)), uint32(borders[i+1]-1)
		switch {
		case now && before:
			s[len(s)-1].To = to
		case now:
			s = append(s, Span{uint32(from), to})
		}
		before = now
	}
	return s
}

// random returns up to n right spans in any order, which may meet, touch and be the same.
func random(r *rand.Rand, n int, least, most uint32) []Span {
	l := make([]Span, r.Intn(n+1))
	for i := range l {
		a, b := least+uint32(r.Int63n(int64(most-least)+1)), least+uint32(r.Int63n(int64(most-least)+1))
		if r.Intn(3) == 0 {
			b = a
		}
		l[i] = Span{min(a, b), max(a, b)}
	}
	return l
}

// ends are numbers at which spans may begin and end.
var ends = []uint32{0, 1, 2, 3, 1 << 31, top - 2, top - 1, top}

// shapes are all spans with such ends, right or not.
func shapes() []Span {
	var l []Span
	for _, from := range ends {
		for _, to := range ends {
			l = append(l, Span{from, to})
		}
	}
	return l
}

// P4.1: a set is right if its spans are, and each begins at least 2 after the end of the one before it.
func TestRight(t *testing.T) {
	for _, s := range []Set{nil, {}, {{0, 0}}, {{top, top}}, {{0, top}}, {{5, 7}}, {{1, 3}, {5, 5}}, {{0, 0}, {2, 2}}, {{0, top - 2}, {top, top}}, {{1, 2}, {4, 5}, {7, 9}}, chain(MaxSpans, 0), chain(MaxSpans+1, 0), chain(MaxSpans, top-2*MaxSpans+2)} {
		if !Right(s) {
			t.Error(s, "is right")
		}
	}
	for _, s := range []Set{
		{{1, 0}}, {{top, 0}}, {{top, top - 1}}, {{1, 3}, {4, 4}}, {{1, 3}, {3, 4}}, {{1, 3}, {2, 2}}, {{1, 3}, {1, 3}}, {{1, 3}, {0, 9}}, {{5, 6}, {1, 2}}, {{5, 6}, {0, 0}}, {{0, top}, {0, 0}}, {{0, top}, {1, 1}}, {{0, top}, {0, top}}, {{top, top}, {0, 0}}, {{top, top}, {1, 1}}, {{top, top}, {top, top}}, {{0, top - 1}, {top, top}},
		{{1, 2}, {5, 4}}, {{1, 2}, {9, 8}, {11, 12}}, {{3, 1}, {5, 6}}, {{1, 2}, {4, 5}, {6, 7}}, {{1, 2}, {4, 5}, {1, 2}}, {{1, 2}, {4, 5}, {7, 6}},
	} {
		if Right(s) {
			t.Error(s, "is not right")
		}
	}
	for _, x := range shapes() {
		if got := Right(Set{x}); got != (x.From <= x.To) {
			t.Error(x, got)
		}
		for _, y := range shapes() {
			want := x.From <= x.To && y.From <= y.To && uint64(y.From) >= uint64(x.To)+2
			if got := Right(Set{x, y}); got != want {
				t.Error(x, y, got)
			}
			if got := Right(Set{{5, 5}, {7, 9}, x, y}); got != (want && x.From >= 11) {
				t.Error(x, y, got)
			}
		}
	}
	for i := range MaxSpans + 9 { // a span that is not right is found wherever it is
		s := chain(MaxSpans+9, 4)
		if s[i].From++; Right(s) {
			t.Fatal(i, "is not right")
		}
	}
}

// P4.1: the set of a list of spans has the numbers of all of them, in whatever order they come.
func TestOf(t *testing.T) {
	for _, c := range []struct {
		l    []Span
		want Set
	}{
		{[]Span{{5, 7}, {1, 2}, {3, 3}, {7, 9}}, Set{{1, 3}, {5, 9}}}, {nil, nil}, {[]Span{}, nil}, {[]Span{{0, 0}}, Set{{0, 0}}}, {[]Span{{top, top}}, Set{{top, top}}}, {[]Span{{0, top}}, Set{{0, top}}}, {[]Span{{0, 0}, {top, top}}, Set{{0, 0}, {top, top}}}, {[]Span{{top, top}, {0, 0}}, Set{{0, 0}, {top, top}}},
		{[]Span{{0, top}, {0, 0}, {top, top}, {5, 6}}, Set{{0, top}}}, {[]Span{{1, 9}, {2, 3}, {10, 11}}, Set{{1, 11}}}, {[]Span{{1, 9}, {2, 3}, {5, 6}, {11, 12}}, Set{{1, 9}, {11, 12}}}, {[]Span{{4, 4}, {4, 4}, {4, 4}}, Set{{4, 4}}}, {[]Span{{4, 4}, {6, 6}, {5, 5}}, Set{{4, 6}}}, {[]Span{{4, 4}, {2, 2}, {6, 6}}, Set{{2, 2}, {4, 4}, {6, 6}}},
		{[]Span{{1, 2}, {1, 5}, {1, 3}}, Set{{1, 5}}}, {[]Span{{top - 1, top}, {0, top - 2}}, Set{{0, top}}}, {[]Span{{top, top}, {top - 2, top - 2}}, Set{{top - 2, top - 2}, {top, top}}}, {[]Span{{0, top - 1}, {top, top}}, Set{{0, top}}},
	} {
		if got, e := Of(c.l); !slices.Equal(got, c.want) || e != api.OK {
			t.Error(c.l, got, e)
		}
	}
	for _, x := range shapes() {
		for _, y := range shapes() {
			for _, z := range []Span{{1, 1}, {2, top - 1}, {top, top}, {3, 2}} {
				l := []Span{x, y, z}
				got, e := Of(l)
				if x.From > x.To || y.From > y.To || z.From > z.To {
					if got != nil || e != api.ErrArg {
						t.Fatal(l, got, e)
					}
				} else if want := drawn(func(n uint32) bool { return has(l, n) }, l); !slices.Equal(got, want) || e != api.OK {
					t.Fatal(l, got, want, e)
				}
			}
		}
	}
}

// P4.1: sets of many spans, and of just as many as there may be.
func TestOfMany(t *testing.T) {
	r := rand.New(rand.NewSource(41))
	for i := range 400 {
		l := random(r, 60, bases[i%4], bases[i%4]+uint32(40+i))
		if got, e := Of(l); !slices.Equal(got, drawn(func(n uint32) bool { return has(l, n) }, l)) || e != api.OK {
			t.Fatal(l, got, e)
		}
	}
	l := chain(MaxSpans, 7)
	back := slices.Clone(l)
	slices.Reverse(back)
	if got, e := Of(back); !slices.Equal(got, l) || e != api.OK {
		t.Error(len(got), e)
	}
	for i := range back {
		back[i].To++
	}
	if got, e := Of(back); !slices.Equal(got, Set{{7, 7 + 2*MaxSpans - 1}}) || e != api.OK {
		t.Error(got, e)
	}
	if got, e := Of(slices.Repeat([]Span{{3, 4}}, MaxSpans)); !slices.Equal(got, Set{{3, 4}}) || e != api.OK {
		t.Error(got, e)
	}
	if got, e := Of(slices.Repeat([]Span{{3, 4}}, MaxSpans+1)); got != nil || e != api.ErrMany {
		t.Error(got, e)
	}
}

// unruly are sets that are not right: their spans are in no order, meet, touch, or have no numbers.
var unruly = []Set{
	{{1, 0}}, {{top, 0}}, {{5, 7}, {1, 2}}, {{5, 7}, {6, 9}, {1, 2}}, {{9, 8}, {8, 8}}, {{8, 8}, {9, 7}}, {{top, top}, {0, 0}}, {{0, top}, {3, 1}}, {{7, 3}, {3, 7}}, {{1, 3}, {4, 4}}, {{4, 4}, {4, 4}}, {{top, top - 1}, {top - 1, top - 1}}, {{8, 9}, {2, 3}, {5, 6}, {2, 9}, {4, 1}},
}

// P4.1: a set, right or not, has a number if one of its spans has it.
func TestHas(t *testing.T) {
	sets := append([]Set{nil, {}, {{0, 0}}, {{top, top}}, {{0, top}}, {{1, 3}, {7, 7}}}, unruly...)
	for _, x := range shapes() {
		sets = append(sets, Set{x}, Set{{5, 5}, x})
	}
	for _, s := range sets {
		for _, n := range append([]uint32{4, 5, 6, 7, 8, 9, 10}, ends...) {
			if got := Has(s, n); got != has(s, n) {
				t.Error(s, n, got)
			}
		}
	}
	long := chain(3*MaxSpans, 10)
	for i := range uint32(6*MaxSpans + 20) {
		if got := Has(long, i); got != (i >= 10 && i%2 == 0 && i < 10+6*MaxSpans) {
			t.Fatal(i, got)
		}
	}
}

// P4.1: a set is counted number by number; that of all numbers has 4294967296.
func TestCount(t *testing.T) {
	for _, c := range []struct {
		s    Set
		want int
	}{
		{nil, 0}, {Set{}, 0}, {Set{{0, 0}}, 1}, {Set{{top, top}}, 1}, {Set{{0, top}}, 1 << 32}, {Set{{1, top}}, 1<<32 - 1}, {Set{{0, top - 1}}, 1<<32 - 1}, {Set{{1, 3}, {5, 9}}, 8}, {Set{{0, 1}, {3, top}}, 1<<32 - 1}, {chain(MaxSpans, 3), MaxSpans},
	} {
		if got, e := Count(c.s); got != c.want || e != api.OK {
			t.Error(c.s, got, e)
		}
	}
	for bits := range 256 {
		for _, base := range bases {
			want := 0
			for i := range 8 {
				want += bits >> i & 1
			}
			if got, e := Count(small(bits, base)); got != want || e != api.OK {
				t.Error(bits, base, got, e)
			}
		}
	}
}

// next goes through the numbers from n on, up to one that is the last one that matters.
func next(s Set, n, last uint32) (uint32, bool) {
	for i := uint64(n); i <= uint64(last); i++ {
		if has(s, uint32(i)) {
			return uint32(i), true
		}
	}
	return 0, false
}

// P4.3: the next number of a set is the least one from n on, in whatever order its spans are; without one it is 0, and none.
func TestNext(t *testing.T) {
	for _, c := range []struct {
		s       Set
		n, want uint32
		ok      bool
	}{
		{Set{{1, 3}, {7, 7}}, 4, 7, true}, {Set{{1, 3}, {7, 7}}, 8, 0, false}, {Set{{1, 3}, {7, 7}}, 0, 1, true}, {Set{{1, 3}, {7, 7}}, 2, 2, true}, {Set{{1, 3}, {7, 7}}, 3, 3, true}, {Set{{1, 3}, {7, 7}}, 7, 7, true}, {nil, 0, 0, false}, {nil, top, 0, false}, {Set{{0, 0}}, 0, 0, true}, {Set{{0, 0}}, 1, 0, false}, {Set{{top, top}}, 0, top, true}, {Set{{top, top}}, top, top, true}, {Set{{0, top}}, 0, 0, true}, {Set{{0, top}}, top, top, true}, {Set{{0, top - 1}}, top, 0, false},
		{Set{{9, 9}, {5, 6}, {7, 8}}, 0, 5, true}, {Set{{9, 9}, {5, 6}, {7, 8}}, 7, 7, true}, {Set{{top, 3}}, 0, 0, false}, {Set{{top, 3}}, top, 0, false}, {Set{{4, 3}}, 4, 0, false}, {Set{{4, 3}, {8, 9}}, 3, 8, true}, {Set{{8, 9}, {4, 3}}, 4, 8, true}, {Set{{8, 9}, {0, 0}}, 0, 0, true}, {Set{{0, 0}, {8, 9}}, 0, 0, true},
	} {
		if got, ok := Next(c.s, c.n); got != c.want || ok != c.ok {
			t.Error(c.s, c.n, got, ok)
		}
	}
	for _, s := range unruly {
		for n := range uint32(12) {
			want, ok := next(s, n, 12)
			if !ok {
				want, ok = next(s, top-3, top)
			}
			if got, found := Next(s, n); got != want || found != ok {
				t.Error(s, n, got, found)
			}
		}
	}
	for bits := range 256 {
		for _, base := range bases {
			s := small(bits, base)
			for n := base; ; n++ {
				want, ok := next(s, n, base+7)
				if got, found := Next(s, n); got != want || found != ok {
					t.Fatal(s, n, got, found)
				}
				if n == base+7 {
					break
				}
			}
		}
	}
	long := chain(3*MaxSpans, 10)
	for _, n := range []uint32{0, 9, 10, 11, 12, 5000, 5001, 10 + 2*MaxSpans, 11 + 4*MaxSpans} {
		if got, ok := Next(long, n); got != max(10, (n+1)/2*2) || !ok {
			t.Error(n, got, ok)
		}
	}
}
