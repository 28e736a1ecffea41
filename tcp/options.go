package tcp

import (
	"iter"
	"slices"

	"baffle/api"
)

// Kinds of options, and what is right for those that are known.
const (
	kindEnd       = 0
	kindNop       = 1
	kindMSS       = 2
	kindScale     = 3
	kindSelective = 4
	kindBlocks    = 5
	kindStamp     = 8

	headSize   = 2 // the kind and the length of an option
	pairSize   = 8 // two numbers, of a block or of a stamp
	multiple   = 4 // of what the bytes of each known option are
	mostMSS    = 65535
	mostScale  = 14
	mostBlocks = 4

	noMSS   = 0
	noScale = -1
)

// option is an option, without its length.
type option struct {
	kind    uint8
	content []byte
}

// first returns the first option of some bytes, which are not at their end, and what is behind it; false if it does not end.
func first(b []byte) (option, []byte, bool) {
	if len(b) < headSize || b[1] < headSize || int(b[1]) > len(b) {
		return option{}, nil, false
	}
	return option{kind: b[0], content: b[headSize:b[1]]}, b[b[1]:], true
}

// parts yields the options of some bytes, in order, but for those of one byte; one that does not end is yielded with false, and there are no more.
func parts(b []byte) iter.Seq2[option, bool] {
	return func(yield func(option, bool) bool) {
		rest := b
		for len(rest) > 0 && rest[0] != kindEnd {
			if rest[0] == kindNop {
				rest = rest[1:]
				continue
			}
			o, behind, ends := first(rest)
			if !yield(o, ends) || !ends {
				return
			}
			rest = behind
		}
	}
}

// takers returns what puts the content of an option into a Known, by the kinds that are known, and reports whether it is right.
func (k *Known) takers() map[uint8]func(content []byte) bool {
	return map[uint8]func(content []byte) bool{
		kindMSS: func(content []byte) bool {
			if len(content) != 2 {
				return false
			}
			k.MSS = int(word(content, 0))
			return k.MSS != noMSS
		},
		kindScale: func(content []byte) bool {
			if len(content) != 1 {
				return false
			}
			k.Scale = int(content[0])
			return k.Scale <= mostScale
		},
		kindSelective: func(content []byte) bool {
			k.Selective = true
			return len(content) == 0
		},
		kindBlocks: func(content []byte) bool {
			if len(content) == 0 || len(content)%pairSize != 0 { // MaxOptions leave no room for more than mostBlocks
				return false
			}
			k.Blocks = pairs(content)
			return true
		},
		kindStamp: func(content []byte) bool {
			if len(content) != pairSize {
				return false
			}
			k.Stamped, k.Stamp, k.Echo = true, long(content, 0), long(content, 4)
			return true
		},
	}
}

// pairs returns the pairs of numbers of some bytes.
func pairs(b []byte) [][2]uint32 {
	var l [][2]uint32
	for x := range slices.Chunk(b, pairSize) {
		l = append(l, [2]uint32{long(x, 0), long(x, 4)})
	}
	return l
}

// Parse returns what is known of options.
func Parse(b []byte) (Known, api.Errno) {
	if len(b) > MaxOptions {
		return Known{}, api.ErrLong
	}
	k := Known{MSS: noMSS, Scale: noScale}
	takers := k.takers()
	for o, ends := range parts(b) {
		if !ends {
			return Known{}, ErrOption
		}
		take, known := takers[o.kind]
		if !known {
			continue
		}
		if !take(o.content) {
			return Known{}, ErrOption
		}
		takers[o.kind] = func([]byte) bool { return false } // none is right after the first one
	}
	return k, api.OK
}

// Right reports whether a Known is right.
func Right(k Known) bool {
	return k.MSS >= noMSS && k.MSS <= mostMSS &&
		k.Scale >= noScale && k.Scale <= mostScale &&
		(k.Stamped || k.Stamp == 0 && k.Echo == 0) &&
		len(k.Blocks) <= mostBlocks
}

// options returns the options that a right Known has, in the order of their bytes.
func (k Known) options() []option {
	var l []option
	if k.MSS != noMSS {
		l = append(l, option{kindMSS, appendWord(nil, uint16(k.MSS))})
	}
	if k.Scale != noScale {
		l = append(l, option{kindScale, []byte{byte(k.Scale)}})
	}
	if k.Selective {
		l = append(l, option{kindSelective, nil})
	}
	if k.Stamped {
		l = append(l, option{kindStamp, appendPairs(nil, [2]uint32{k.Stamp, k.Echo})})
	}
	if len(k.Blocks) > 0 {
		l = append(l, option{kindBlocks, appendPairs(nil, k.Blocks...)})
	}
	return l
}

func appendPairs(b []byte, l ...[2]uint32) []byte {
	for _, pair := range l {
		b = appendLong(appendLong(b, pair[0]), pair[1])
	}
	return b
}

// appendTo returns some bytes with those of an option after them.
func (o option) appendTo(b []byte) []byte {
	size := headSize + len(o.content)
	for n := size; n%multiple != 0; n++ {
		b = append(b, kindNop)
	}
	b = append(b, o.kind, byte(size))
	return append(b, o.content...)
}

// Format returns the bytes of options.
func Format(k Known) ([]byte, api.Errno) {
	if !Right(k) {
		return nil, api.ErrArg
	}
	var b []byte
	for _, o := range k.options() {
		b = o.appendTo(b)
	}
	if len(b) > MaxOptions {
		return nil, api.ErrLong
	}
	return b, api.OK
}
