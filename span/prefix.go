package span

import (
	"baffle/addr"
	"baffle/api"
)

// Prefixes returns the prefixes that cover a set.
func Prefixes(s Set) ([]api.Prefix, api.Errno) {
	if e := check(s); e != api.OK {
		return nil, e
	}
	var l []api.Prefix
	for _, x := range s {
		cover, _ := addr.Cover(x.From, x.To) // a right span always has one
		l = append(l, cover...)
	}
	return l, api.OK
}

// OfPrefixes returns the set of the addresses of prefixes.
func OfPrefixes(l []api.Prefix) (Set, api.Errno) {
	if len(l) > MaxSpans {
		return nil, api.ErrMany
	}
	spans := make([]Span, len(l))
	for i, p := range l {
		from, to, e := addr.Bounds(p)
		if e != api.OK {
			return nil, api.ErrArg
		}
		spans[i] = Span{From: from, To: to}
	}
	return Of(spans)
}
