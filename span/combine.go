package span

import (
	"iter"

	"baffle/api"
)

// builder puts a right set together.
type builder struct{ set Set }

// add takes the numbers of a right span that does not begin before those that were taken. It always asks for more, so that spans may be yielded to it.
func (b *builder) add(x Span) bool {
	end := len(b.set) - 1
	if end < 0 || apart(b.set[end], x) {
		b.set = append(b.set, x)
	} else {
		b.set[end].To = max(b.set[end].To, x.To)
	}
	return true
}

// build returns the set of the numbers of right spans, none of which begins before the one that is yielded before it.
func build(spans iter.Seq[Span]) Set {
	var b builder
	spans(b.add)
	return b.set
}

// rest returns what is left of a right set without the spans that end before n.
func rest(s Set, n uint32) Set {
	for len(s) > 0 && s[0].To < n {
		s = s[1:]
	}
	return s
}

// ahead reports whether a right set, of which no span ends before n, has n, and up to which number it is the same with those after n.
func ahead(s Set, n uint32) (bool, uint32) {
	switch {
	case len(s) == 0:
		return false, most
	case s[0].From > n:
		return false, s[0].From - 1
	}
	return true, s[0].To
}

// chosen yields, in increasing order, the spans of the numbers that are taken if they are, or are not, in one and in the other of two right sets.
func chosen(a, b Set, taken func(inA, inB bool) bool) iter.Seq[Span] {
	return func(yield func(Span) bool) {
		restA, restB := a, b
		for from := uint32(0); ; {
			restA, restB = rest(restA, from), rest(restB, from)
			inA, toA := ahead(restA, from)
			inB, toB := ahead(restB, from)
			to := min(toA, toB)
			if taken(inA, inB) && !yield(Span{From: from, To: to}) {
				return
			}
			if to == most { // the number after it would be 0
				return
			}
			from = to + 1
		}
	}
}

// combine returns the set of the numbers that are chosen of two sets.
func combine(a, b Set, taken func(inA, inB bool) bool) (Set, api.Errno) {
	if e := check(a, b); e != api.OK {
		return nil, e
	}
	return build(chosen(a, b, taken)), api.OK
}

// Union returns what one of two sets has.
func Union(a, b Set) (Set, api.Errno) {
	return combine(a, b, func(inA, inB bool) bool { return inA || inB })
}

// Common returns what both sets have.
func Common(a, b Set) (Set, api.Errno) {
	return combine(a, b, func(inA, inB bool) bool { return inA && inB })
}

// Without returns what the first set alone has.
func Without(a, b Set) (Set, api.Errno) {
	return combine(a, b, func(inA, inB bool) bool { return inA && !inB })
}

// Others returns what a set does not have.
func Others(s Set) (Set, api.Errno) { return Without(Set{{From: 0, To: most}}, s) }

// Within reports whether the second set has all numbers of the first one.
func Within(a, b Set) (bool, api.Errno) {
	left, e := Without(a, b)
	return e == api.OK && len(left) == 0, e
}
