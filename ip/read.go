package ip

import (
	"bytes"

	"baffle/api"
	"baffle/csum"
)

// word returns the number of the two bytes from an index on.
func word(b []byte, at int) uint16 { return uint16(b[at])<<8 | uint16(b[at+1]) }

// long returns the number of the four bytes from an index on.
func long(b []byte, at int) uint32 { return uint32(word(b, at))<<16 | uint32(word(b, at+2)) }

// size returns how many bytes the header has, as it says itself.
func size(b []byte) int { return int(b[0]%16) * 4 }

// total returns the total length.
func total(b []byte) int { return int(word(b, atTotal)) }

// header returns the header of bytes that have as many as it says.
func header(b []byte) Header {
	flags := word(b, atFlags)
	return Header{
		TOS:     b[1],
		ID:      word(b, atID),
		DF:      flags&bitDF != 0,
		MF:      flags&bitMF != 0,
		Offset:  int(flags&bitsOffset) * 8,
		TTL:     b[atTTL],
		Proto:   b[atProto],
		Src:     long(b, atSrc),
		Dst:     long(b, atDst),
		Options: bytes.Clone(b[least:size(b)]),
	}
}

// fault returns the first thing that is wrong with bytes. What a closure reads is there, for those before it were asked first.
func fault(b []byte) api.Errno {
	wrong := [...]func() bool{
		ErrShort - ErrShort:   func() bool { return len(b) < least },
		ErrVersion - ErrShort: func() bool { return b[0]/16 != version },
		ErrHeader - ErrShort:  func() bool { return size(b) < least || size(b) > len(b) },
		ErrTotal - ErrShort:   func() bool { return total(b) < size(b) || total(b) > len(b) },
		ErrSum - ErrShort:     func() bool { return !csum.Right(b[:size(b)]) },
		ErrFlags - ErrShort:   func() bool { return word(b, atFlags)&bitReserved != 0 },
		ErrOffset - ErrShort:  func() bool { return !Right(header(b), total(b)-size(b)) },
	}
	for i, is := range wrong {
		if is() {
			return ErrShort + api.Errno(i)
		}
	}
	return api.OK
}

// Read returns the header of a packet, and where its data is.
func Read(b []byte) (Header, int, int, api.Errno) {
	if e := fault(b); e != api.OK {
		return Header{}, 0, 0, e
	}
	return header(b), size(b), total(b), api.OK
}
