package frag

import (
	"bytes"
	"slices"

	"baffle/api"
	"baffle/ip"
)

// unit is what all sizes of pieces, as all Offsets, are a multiple of.
const unit = 8

// Split returns the pieces of a packet.
func Split(b []byte, size int) ([][]byte, api.Errno) {
	if size < unit || size%unit != 0 {
		return nil, api.ErrArg
	}
	h, from, to, e := ip.Read(b)
	if e != api.OK {
		return nil, e
	}
	if to-from <= size {
		return [][]byte{bytes.Clone(b[:to])}, api.OK // not written again: its checksum may be 65535
	}
	if h.DF {
		return nil, ErrDF
	}
	return pieces(h, b[from:to], size), api.OK
}

// pieces returns the pieces of a packet with a header and data.
func pieces(h ip.Header, data []byte, size int) [][]byte {
	var l [][]byte
	at := 0
	for part := range slices.Chunk(data, size) {
		head := h
		head.Offset += at
		at += len(part)
		head.MF = h.MF || at < len(data)
		piece, _ := ip.Write(head, part) // it is right, as h is, for all sizes before the end are multiples of the unit
		l = append(l, piece)
	}
	return l
}
