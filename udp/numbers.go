package udp

import (
	"baffle/api"
)

// The numbers of a header, in their order.
const (
	srcPort = iota
	dstPort
	length
	check
	count // how many there are
)

const (
	least = 2 * count          // the bytes before the data
	most  = api.MaxPacket - 20 // the bytes of a datagram that there is room for after the header of its packet
)

// numbers are those of a header.
type numbers [count]uint16

// read returns the numbers that some bytes begin with.
func read(b []byte) numbers {
	var n numbers
	for i := range count {
		n[i] = uint16(b[2*i])<<8 | uint16(b[2*i+1])
	}
	return n
}

// before returns the bytes of the numbers, with data after them.
func (n numbers) before(data []byte) []byte {
	b := make([]byte, 0, least+len(data))
	for _, x := range n {
		b = append(b, byte(x>>8), byte(x))
	}
	return append(b, data...)
}

// with calls a function with the numbers of a datagram that is right, and its bytes, without those after it, and returns its error; or the first thing that is wrong.
func with(b []byte, do func(n numbers, datagram []byte) api.Errno) api.Errno {
	if len(b) < least {
		return ErrShort
	}
	n := read(b)
	end := int(n[length])
	if end < least || end > len(b) {
		return ErrLength
	}
	if n[dstPort] == 0 {
		return ErrPort
	}
	return do(n, b[:end])
}
