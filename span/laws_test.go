package span

import (
	"math/rand"
	"slices"
	"testing"

	"baffle/api"
)

// must returns a function that passes a set on, and fails if there was an error.
func must(t *testing.T) func(s Set, e api.Errno) Set {
	return func(s Set, e api.Errno) Set {
		t.Helper()
		if e != api.OK || !Right(s) {
			t.Fatal(s, e)
		}
		return s
	}
}

// some returns right sets of all sorts.
func some(r *rand.Rand) []Set {
	sets := []Set{nil, {{0, top}}, {{0, 0}}, {{top, top}}, {{1, top - 1}}, {{0, 0}, {top, top}}, {{1, 3}}, {{4, 6}}, {{1, 5}, {9, 9}}, chain(20, 3)}
	for i := range 12 {
		s, _ := Of(random(r, 15, 0, top>>(i*2)))
		sets = append(sets, s)
	}
	return sets
}

// P4.6: the laws of sets hold: whatever way a set is made, it is the same.
func TestLaws(t *testing.T) {
	sets, set := some(rand.New(rand.NewSource(46))), must(t)
	for _, a := range sets {
		notA := set(Others(a))
		for _, b := range sets {
			union, common, without, notB := set(Union(a, b)), set(Common(a, b)), set(Without(a, b)), set(Others(b))
			for i, c := range []struct{ x, y Set }{
				{set(Others(notA)), a}, {set(Union(a, a)), a}, {set(Common(a, a)), a}, {set(Without(a, a)), nil}, {set(Union(a, notA)), Set{{0, top}}}, {set(Common(a, notA)), nil}, {set(Union(a, nil)), a}, {set(Without(Set{{0, top}}, a)), notA},
				{union, set(Union(b, a))}, {common, set(Common(b, a))}, {set(Others(union)), set(Common(notA, notB))}, {set(Others(common)), set(Union(notA, notB))}, {without, set(Common(a, notB))}, {union, set(Union(without, b))}, {a, set(Union(without, common))}, {set(Common(without, b)), nil}, {set(Union(a, common)), a}, {set(Common(a, union)), a}, {union, set(Of(slices.Concat(b, a)))},
			} {
				if !slices.Equal(c.x, c.y) {
					t.Fatal(i, a, b, c.x, c.y)
				}
			}
			for _, c := range sets {
				if x, y := set(Common(c, union)), set(Union(set(Common(c, a)), set(Common(c, b)))); !slices.Equal(x, y) {
					t.Fatal(a, b, c, x, y)
				}
				if x, y := set(Union(set(Union(a, b)), c)), set(Union(a, set(Union(b, c)))); !slices.Equal(x, y) {
					t.Fatal(a, b, c, x, y)
				}
			}
		}
	}
}

// P4.6: the numbers of a union and of the common part are together those of both, and the others those that are missing.
func TestCounts(t *testing.T) {
	sets, set := some(rand.New(rand.NewSource(47))), must(t)
	count := func(s Set) int {
		n, e := Count(s)
		if e != api.OK {
			t.Fatal(s, e)
		}
		return n
	}
	for _, a := range sets {
		if count(a)+count(set(Others(a))) != 1<<32 {
			t.Fatal(a)
		}
		for _, b := range sets {
			union, common, without := set(Union(a, b)), set(Common(a, b)), set(Without(a, b))
			if count(union)+count(common) != count(a)+count(b) || count(without)+count(common) != count(a) {
				t.Fatal(a, b, union, common, without)
			}
			within, e := Within(a, b)
			if e != api.OK || within != slices.Equal(union, b) || within != slices.Equal(common, a) || within != (count(common) == count(a)) {
				t.Fatal(a, b, within, e)
			}
		}
	}
}

// P4.6: Next leads through all numbers of a set, which Has finds.
func TestNextLeadsThrough(t *testing.T) {
	for bits := range 256 {
		for _, base := range bases[:4] {
			s, seen := small(bits, base), 0
			for n, ok := Next(s, 0); ok; n, ok = Next(s, n+1) {
				if !Has(s, n) {
					t.Fatal(s, n)
				}
				seen |= 1 << (n - base)
			}
			if seen != bits {
				t.Fatal(s, seen)
			}
		}
	}
}
