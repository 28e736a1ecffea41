package tcp

import (
	"bytes"

	"baffle/api"
	"baffle/csum"
)

// What the bytes of a segment are.
const (
	least = 20                 // the bytes before the options
	most  = api.MaxPacket - 20 // the bytes of a segment that there is room for after the header of its packet

	atSrcPort = 0
	atDstPort = 2
	atSeq     = 4
	atAck     = 8
	atSize    = 12
	atFlags   = 13
	atWindow  = 14
	atSum     = 16
	atUrgent  = 18
)

// size returns how many bytes the header has, as it says itself.
func size(b []byte) int { return int(b[atSize]/16) * 4 }

// fault returns the first thing that is wrong with bytes.
func fault(b []byte) api.Errno {
	switch {
	case len(b) < least:
		return ErrShort
	case size(b) < least || size(b) > len(b):
		return ErrHeader
	case b[atSize]%16 != 0 || !Sane(b[atFlags]):
		return ErrFlags
	case word(b, atSrcPort) == 0 || word(b, atDstPort) == 0:
		return ErrPort
	}
	return api.OK
}

// Read returns the header of a segment, and where its data begins.
func Read(b []byte) (Header, int, api.Errno) {
	if e := fault(b); e != api.OK {
		return Header{}, 0, e
	}
	h := Header{
		SrcPort: word(b, atSrcPort),
		DstPort: word(b, atDstPort),
		Seq:     long(b, atSeq),
		Ack:     long(b, atAck),
		Flags:   b[atFlags],
		Window:  word(b, atWindow),
		Urgent:  word(b, atUrgent),
		Options: bytes.Clone(b[least:size(b)]),
	}
	return h, size(b), api.OK
}

// right reports whether a header may be written before n bytes of data.
func (h Header) right(n int) bool {
	options := len(h.Options)
	return h.SrcPort != 0 && h.DstPort != 0 && Sane(h.Flags) && options <= MaxOptions && options%4 == 0 && n <= most-least-options
}

// bytes returns the bytes of a right header, with 0 in place of the checksum.
func (h Header) bytes() []byte {
	b := appendWord(nil, h.SrcPort)
	b = appendWord(b, h.DstPort)
	b = appendLong(b, h.Seq)
	b = appendLong(b, h.Ack)
	b = append(b, byte((least+len(h.Options))/4*16), h.Flags)
	b = appendWord(b, h.Window)
	b = appendWord(b, 0)
	b = appendWord(b, h.Urgent)
	return append(b, h.Options...)
}

// Write returns the segment with a header and data.
func Write(h Header, src, dst uint32, data []byte) ([]byte, api.Errno) {
	if !h.right(len(data)) {
		return nil, api.ErrArg
	}
	b := append(h.bytes(), data...)
	check := checksum(b, src, dst)
	b[atSum], b[atSum+1] = byte(check>>8), byte(check)
	return b, api.OK
}

// Verify reports whether the checksum of a segment is right.
func Verify(b []byte, src, dst uint32) bool {
	return len(b) >= least && len(b) <= api.MaxPacket && checksum(b, src, dst) == 0
}

// checksum returns the one of all bytes, those of the checksum too, with a pseudo header; there are at most api.MaxPacket of them.
func checksum(b []byte, src, dst uint32) uint16 {
	pseudo, _ := csum.Pseudo(src, dst, api.TCP, len(b)) // a length that is not greater is right
	return csum.Over(pseudo, b)
}
