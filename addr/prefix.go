package addr

import (
	"iter"
	"math/bits"
	"slices"
	"strings"

	"baffle/api"
)

// maxLen is the Len of a prefix that has one address.
const maxLen = 32

// Right reports whether a prefix is right.
func Right(p api.Prefix) bool { return p.Len <= maxLen && p.Addr&^Mask(p.Len) == 0 }

// Mask returns the number whose first bits are 1.
func Mask(n uint8) uint32 { return ^(^uint32(0) >> n) }

// Cut returns the prefix of an address.
func Cut(a uint32, n uint8) (api.Prefix, api.Errno) {
	if n > maxLen {
		return api.Prefix{}, api.ErrArg
	}
	return api.Prefix{Addr: a & Mask(n), Len: n}, api.OK
}

// PrefixText returns the text of a prefix.
func PrefixText(p api.Prefix) (string, api.Errno) {
	if !Right(p) {
		return "", ErrPrefix
	}
	return Text(p.Addr) + "/" + decimal(p.Len), api.OK
}

// ReadPrefix returns the prefix of a text.
func ReadPrefix(s string) (api.Prefix, api.Errno) {
	before, after, _ := strings.Cut(s, "/") // without a / there is no number after it
	a, e := Read(before)
	n, ok := number[uint8](after)
	p := api.Prefix{Addr: a, Len: n}
	if e != api.OK || !ok || !Right(p) {
		return api.Prefix{}, ErrText
	}
	return p, api.OK
}

// Has reports whether a prefix has an address.
func Has(p api.Prefix, a uint32) bool { return Right(p) && a&Mask(p.Len) == p.Addr }

// last returns the greatest address of a right prefix.
func last(p api.Prefix) uint32 { return p.Addr | ^Mask(p.Len) }

// Bounds returns the least and the greatest address of a prefix.
func Bounds(p api.Prefix) (uint32, uint32, api.Errno) {
	if !Right(p) {
		return 0, 0, ErrPrefix
	}
	return p.Addr, last(p), api.OK
}

// Inside reports whether one prefix is inside another one.
func Inside(p, q api.Prefix) bool { return Right(p) && p.Len >= q.Len && Has(q, p.Addr) }

// Meet reports whether an address is in both prefixes.
func Meet(p, q api.Prefix) bool { return Inside(p, q) || Inside(q, p) }

// Cover returns the prefixes that cover a range of addresses.
func Cover(from, to uint32) ([]api.Prefix, api.Errno) {
	if from > to {
		return nil, api.ErrArg
	}
	return slices.Collect(cover(from, to)), api.OK
}

// cover yields the prefixes that cover a range: the widest one that begins where the range does leaves the fewest for the rest.
func cover(from, to uint32) iter.Seq[api.Prefix] {
	return func(yield func(api.Prefix) bool) {
		for {
			p := widest(from, to)
			if !yield(p) || last(p) == to { // the address after the greatest one of all would be 0
				return
			}
			from = last(p) + 1
		}
	}
}

// widest returns the right prefix with the most addresses that begins at from and does not pass to.
func widest(from, to uint32) api.Prefix {
	p := api.Prefix{Addr: from, Len: uint8(maxLen - bits.TrailingZeros32(from))}
	for last(p) > to {
		p.Len++
	}
	return p
}
