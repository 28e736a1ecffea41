package opts

import (
	"bytes"
	"slices"

	"baffle/api"
)

// Find returns the first option of a kind.
func Find(l []Option, kind uint8) (Option, bool) {
	at := slices.IndexFunc(l, func(o Option) bool { return o.Kind == kind })
	if at < 0 {
		return Option{}, false
	}
	return Option{Kind: kind, Data: bytes.Clone(l[at].Data)}, true
}

// Routed reports whether there is a route of the source.
func Routed(l []Option) bool {
	return slices.ContainsFunc(l, func(o Option) bool { return o.Kind == KindLoose || o.Kind == KindStrict })
}

// routes reports whether an option is right, and has addresses.
func (o Option) routes() bool {
	switch o.Kind {
	case KindRecord, KindLoose, KindStrict:
		return Right(o)
	}
	return false
}

// Route returns the addresses that are done, and those that are left.
func Route(o Option) ([]uint32, []uint32, api.Errno) {
	if !o.routes() {
		return nil, nil, api.ErrArg
	}
	next := pointed(o.Data)
	return addresses(o.Data[atAddrs:next]), addresses(o.Data[next:]), api.OK
}

// addresses returns the addresses of some bytes.
func addresses(b []byte) []uint32 {
	var l []uint32
	for x := range slices.Chunk(b, addrSize) {
		l = append(l, uint32(x[0])<<24|uint32(x[1])<<16|uint32(x[2])<<8|uint32(x[3]))
	}
	return l
}

// Record returns an option with one more address.
func Record(o Option, addr uint32) (Option, api.Errno) {
	if !o.routes() {
		return Option{}, api.ErrArg
	}
	next := pointed(o.Data)
	if next == len(o.Data) {
		return Option{}, api.ErrFull
	}
	data := bytes.Clone(o.Data)
	data[0] += addrSize
	copy(data[next:], []byte{byte(addr >> 24), byte(addr >> 16), byte(addr >> 8), byte(addr)})
	return Option{Kind: o.Kind, Data: data}, api.OK
}
