package span

import (
	"slices"
	"testing"

	"baffle/api"
)

// ofOne are the functions of one set; each reports whether its result is zero, and its error.
func ofOne() map[string]func(s Set) (bool, api.Errno) {
	return map[string]func(s Set) (bool, api.Errno){
		"Count":    func(s Set) (bool, api.Errno) { n, e := Count(s); return n == 0, e },
		"Others":   func(s Set) (bool, api.Errno) { x, e := Others(s); return x == nil, e },
		"Prefixes": func(s Set) (bool, api.Errno) { x, e := Prefixes(s); return x == nil, e },
		"Text":     func(s Set) (bool, api.Errno) { x, e := Text(s); return x == "", e },
		"Union":    func(s Set) (bool, api.Errno) { x, e := Union(s, s); return x == nil, e },
		"Common":   func(s Set) (bool, api.Errno) { x, e := Common(s, s); return x == nil, e },
		"Without":  func(s Set) (bool, api.Errno) { x, e := Without(s, s); return x == nil, e },
		"Within":   func(s Set) (bool, api.Errno) { x, e := Within(s, s); return !x, e },
	}
}

// ofTwo are the functions of two sets.
func ofTwo() map[string]func(a, b Set) (bool, api.Errno) {
	return map[string]func(a, b Set) (bool, api.Errno){
		"Union":   func(a, b Set) (bool, api.Errno) { x, e := Union(a, b); return x == nil, e },
		"Common":  func(a, b Set) (bool, api.Errno) { x, e := Common(a, b); return x == nil, e },
		"Without": func(a, b Set) (bool, api.Errno) { x, e := Without(a, b); return x == nil, e },
		"Within":  func(a, b Set) (bool, api.Errno) { x, e := Within(a, b); return !x, e },
	}
}

// wrong are sets of few spans that are not right.
func wrong() []Set {
	return append([]Set{{{0, top - 1}, {top, top}}, {{1, 2}, {2, 3}}, {{1, 2}, {7, 6}}, {{0, top}, {0, top}}, append(chain(MaxSpans-1, 0), Span{0, 0})}, unruly...)
}

// tooLong are sets of too many spans, right or not.
func tooLong() []Set {
	return []Set{chain(MaxSpans+1, 0), chain(3*MaxSpans, 7), slices.Repeat(Set{{0, 0}}, MaxSpans+1), slices.Repeat(Set{{9, 8}}, MaxSpans+1), append(chain(MaxSpans, 5), Span{3, 2})}
}

// P4.1, P4.2, P4.4, P4.5: too many spans are ErrMany, then a set that is not right is ErrArg; all else is zero.
func TestOneArgument(t *testing.T) {
	for name, f := range ofOne() {
		for _, s := range wrong() {
			if zero, e := f(s); !zero || e != api.ErrArg {
				t.Error(name, s, zero, e)
			}
		}
		for _, s := range tooLong() {
			if zero, e := f(s); !zero || e != api.ErrMany {
				t.Error(name, len(s), zero, e)
			}
		}
		for _, s := range []Set{nil, {}, {{0, top}}, {{0, 0}}, {{top, top}}, chain(MaxSpans, 0), chain(MaxSpans, top-2*MaxSpans+2)} {
			if _, e := f(s); e != api.OK {
				t.Error(name, len(s), e)
			}
		}
	}
	for _, l := range [][]Span{{{1, 0}}, {{1, 2}, {9, 8}}, {{top, 0}, {1, 2}}, append(slices.Repeat([]Span{{1, 2}}, MaxSpans-1), Span{3, 2})} {
		if got, e := Of(l); got != nil || e != api.ErrArg {
			t.Error(l, got, e)
		}
	}
	for _, l := range tooLong() {
		if got, e := Of(l); got != nil || e != api.ErrMany {
			t.Error(len(l), got, e)
		}
	}
}

// P4.2: of two arguments either one may be wrong; too many spans of one come before what is wrong with the other.
func TestTwoArguments(t *testing.T) {
	right := []Set{nil, {{0, top}}, {{5, 6}}, chain(MaxSpans, 0)}
	check := func(want api.Errno, first, second []Set) {
		t.Helper()
		for name, f := range ofTwo() {
			for _, a := range first {
				for _, b := range second {
					if zero, e := f(a, b); e != want || want != api.OK && !zero {
						t.Error(name, len(a), len(b), zero, e)
					}
				}
			}
		}
	}
	check(api.OK, right, right)
	check(api.ErrArg, wrong(), right)
	check(api.ErrArg, right, wrong())
	check(api.ErrArg, wrong(), wrong())
	check(api.ErrMany, tooLong(), right)
	check(api.ErrMany, right, tooLong())
	check(api.ErrMany, tooLong(), tooLong())
	check(api.ErrMany, tooLong(), wrong())
	check(api.ErrMany, wrong(), tooLong())
}

// results calls all functions with sets and prefixes, and returns the slices that come out.
func results(a, b, l Set, p []api.Prefix) ([]Set, [][]api.Prefix) {
	union, _ := Union(a, b)
	back, _ := Union(b, a)
	alone, _ := Union(a, nil)
	common, _ := Common(a, b)
	same, _ := Common(a, a)
	without, _ := Without(a, b)
	whole, _ := Without(a, nil)
	others, _ := Others(a)
	of, _ := Of(l)
	ofRight, _ := Of(a)
	ofPrefixes, _ := OfPrefixes(p)
	prefixes, _ := Prefixes(a)
	text, _ := Text(a)
	read, _ := Read(text)
	Right(a)
	Has(l, 4)
	Next(l, 4)
	Count(a)
	Within(a, b)
	return []Set{union, back, alone, common, same, without, whole, others, of, ofRight, ofPrefixes, read}, [][]api.Prefix{prefixes}
}

// P4.1 to P4.5: arguments, and what lies behind them, are left as they are, and results share no memory with them, nor with other results.
func TestMemory(t *testing.T) {
	spare := func(s ...Span) Set { return append(s, Span{77, 66}, Span{1, 2}, Span{99, 99}) }
	a, b, l := spare(Span{1, 5}, Span{9, 9}), spare(Span{4, 9}, Span{11, 20}), spare(Span{5, 7}, Span{1, 2}, Span{3, 3}, Span{7, 9})
	p := []api.Prefix{{Addr: 8, Len: 30}, {Addr: 4, Len: 31}, {Addr: 77, Len: 66}, {Addr: 1, Len: 1}}
	kept := []Set{slices.Clone(a), slices.Clone(b), slices.Clone(l)}
	keptP := slices.Clone(p)
	unchanged := func() bool {
		return slices.Equal(a, kept[0]) && slices.Equal(b, kept[1]) && slices.Equal(l, kept[2]) && slices.Equal(p, keptP)
	}
	sets, prefixes := results(a[:2], b[:2], l[:4], p[:2])
	if !unchanged() {
		t.Fatal(a, b, l, p)
	}
	again, againP := results(a[:2], b[:2], l[:4], p[:2])
	for i, s := range sets {
		for j := range s[:cap(s)] {
			s[:cap(s)][j] = Span{55, 44}
		}
		for j := range sets {
			if j > i && slices.Contains(sets[j], Span{55, 44}) {
				t.Error("two results share memory:", i, j)
			}
		}
	}
	for i := range prefixes[0] {
		prefixes[0][i] = api.Prefix{Addr: 55, Len: 44}
	}
	if !unchanged() {
		t.Error("a result shares memory with an argument:", a, b, l, p)
	}
	third, thirdP := results(a[:2], b[:2], l[:4], p[:2])
	for i := range again {
		if !slices.Equal(again[i], third[i]) || len(again[i]) == 0 {
			t.Error("a result shares memory with another one:", i, again[i], third[i])
		}
	}
	if !slices.Equal(againP[0], thirdP[0]) || len(againP[0]) == 0 {
		t.Error(againP, thirdP)
	}
}
