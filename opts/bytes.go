package opts

import (
	"bytes"
	"iter"
	"slices"

	"baffle/api"
)

// first returns the first option of some bytes, which are not at their end, and how many bytes it has; or the first thing that is wrong with it alone.
func first(b []byte) (Option, int, api.Errno) {
	if b[0] == KindNop {
		return Option{Kind: KindNop}, 1, api.OK
	}
	if len(b) < headSize {
		return Option{}, 0, ErrCut
	}
	size := int(b[1])
	if size < headSize {
		return Option{}, 0, ErrLength
	}
	if size > len(b) {
		return Option{}, 0, ErrCut
	}
	o := Option{Kind: b[0], Data: bytes.Clone(b[headSize:size])}
	if !Right(o) {
		return Option{}, 0, ErrLength
	}
	return o, size, api.OK
}

// parts yields the options of some bytes, in order; after one that is wrong, which is yielded with its error, there are no more.
func parts(b []byte) iter.Seq2[Option, api.Errno] {
	return func(yield func(Option, api.Errno) bool) {
		rest := b
		for len(rest) > 0 && rest[0] != KindEnd {
			o, size, e := first(rest)
			if !yield(o, e) || e != api.OK {
				return
			}
			rest = rest[size:]
		}
		if slices.ContainsFunc(rest, func(x byte) bool { return x != 0 }) {
			yield(Option{}, ErrTail)
		}
	}
}

// group returns one number for all kinds that exclude one another; KindEnd, which is no option, for one that excludes none.
func group(kind uint8) uint8 {
	switch kind {
	case KindRecord, KindStamp:
		return kind
	case KindLoose, KindStrict:
		return KindLoose
	}
	return KindEnd
}

// excluder returns a function that reports whether a kind is excluded by one that it was asked for before.
func excluder() func(kind uint8) bool {
	taken := map[uint8]bool{}
	return func(kind uint8) bool {
		g := group(kind)
		if g == KindEnd {
			return false
		}
		twice := taken[g]
		taken[g] = true
		return twice
	}
}

// Read returns the options of some bytes.
func Read(b []byte) ([]Option, api.Errno) {
	if len(b) > MaxBytes {
		return nil, api.ErrLong
	}
	var l []Option
	excluded := excluder()
	for o, e := range parts(b) {
		if e != api.OK {
			return nil, e
		}
		if excluded(o.Kind) {
			return nil, ErrTwice
		}
		l = append(l, o)
	}
	return l, api.OK
}

// fault returns the first thing that is wrong with a list, but for how many bytes it has.
func fault(l []Option) api.Errno {
	if slices.ContainsFunc(l, func(o Option) bool { return !Right(o) }) {
		return api.ErrArg
	}
	excluded := excluder()
	if slices.ContainsFunc(l, func(o Option) bool { return excluded(o.Kind) }) {
		return ErrTwice
	}
	return api.OK
}

// Write returns the bytes of options.
func Write(l []Option) ([]byte, api.Errno) {
	if e := fault(l); e != api.OK {
		return nil, e
	}
	var b []byte
	for _, o := range l {
		if b = o.appendTo(b); len(b) > MaxBytes {
			return nil, api.ErrLong
		}
	}
	for len(b)%4 != 0 {
		b = append(b, KindEnd)
	}
	return b, api.OK
}

// appendTo returns some bytes with those of a right option after them.
func (o Option) appendTo(b []byte) []byte {
	b = append(b, o.Kind)
	if o.Kind == KindNop {
		return b
	}
	b = append(b, uint8(headSize+len(o.Data)))
	return append(b, o.Data...)
}
