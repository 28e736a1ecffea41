package csum

import "baffle/api"

// Pseudo returns the sum of a pseudo header.
func Pseudo(src, dst uint32, proto uint8, length int) (uint16, api.Errno) {
	if length < 0 || length > most {
		return 0, api.ErrArg
	}
	return Join(upper(src), lower(src), upper(dst), lower(dst), uint16(proto), uint16(length)), api.OK
}

// Over returns the checksum of bytes with a pseudo header.
func Over(pseudo uint16, b []byte) uint16 { return most - Join(pseudo, Sum(b)) }

// Never replaces 0, which says in a datagram of UDP that there is no checksum.
func Never(check uint16) uint16 {
	if check == 0 {
		return most
	}
	return check
}
