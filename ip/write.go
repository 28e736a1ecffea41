package ip

import (
	"bytes"

	"baffle/api"
	"baffle/csum"
)

func putWord(b []byte, at int, v uint16) { b[at], b[at+1] = byte(v>>8), byte(v) }

func putLong(b []byte, at int, v uint32) {
	putWord(b, at, uint16(v>>16))
	putWord(b, at+2, uint16(v))
}

// flags returns the number of DF, MF and Offset.
func (h Header) flags() uint16 {
	flags := uint16(h.Offset / 8)
	if h.DF {
		flags |= bitDF
	}
	if h.MF {
		flags |= bitMF
	}
	return flags
}

// bytes returns the bytes of a header that is right for n bytes of data, with 0 in place of the checksum.
func (h Header) bytes(n int) []byte {
	b := make([]byte, least+len(h.Options))
	b[0] = version*16 + byte(len(b)/4)
	b[1] = h.TOS
	putWord(b, atTotal, uint16(len(b)+n))
	putWord(b, atID, h.ID)
	putWord(b, atFlags, h.flags())
	b[atTTL], b[atProto] = h.TTL, h.Proto
	putLong(b, atSrc, h.Src)
	putLong(b, atDst, h.Dst)
	copy(b[least:], h.Options)
	return b
}

// Write returns the packet with a header and data.
func Write(h Header, data []byte) ([]byte, api.Errno) {
	if !Right(h, len(data)) {
		return nil, api.ErrArg
	}
	head, _ := csum.Fix(h.bytes(len(data)), atSum) // there always are bytes for the checksum
	return append(head, data...), api.OK
}

// Hop returns a packet with a TTL that is 1 less.
func Hop(b []byte) ([]byte, api.Errno) {
	h, from, to, e := Read(b)
	if e != api.OK {
		return nil, e
	}
	if h.TTL <= 1 {
		return nil, ErrTTL
	}
	h.TTL--
	return Write(h, b[from:to]) // all that a header says is in h, so nothing else changes
}

// Turn returns a packet with both addresses exchanged.
func Turn(b []byte) ([]byte, api.Errno) {
	h, _, to, e := Read(b)
	if e != api.OK {
		return nil, e
	}
	turned := bytes.Clone(b[:to])
	putLong(turned, atSrc, h.Dst)
	putLong(turned, atDst, h.Src)
	return turned, api.OK // the checksum stays right, whatever the order of the words
}
