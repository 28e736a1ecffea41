package tcp

// word returns the number of the two bytes from an index on.
func word(b []byte, at int) uint16 { return uint16(b[at])<<8 | uint16(b[at+1]) }

// long returns the number of the four bytes from an index on.
func long(b []byte, at int) uint32 { return uint32(word(b, at))<<16 | uint32(word(b, at+2)) }

func appendWord(b []byte, v uint16) []byte { return append(b, byte(v>>8), byte(v)) }

func appendLong(b []byte, v uint32) []byte {
	return appendWord(appendWord(b, uint16(v>>16)), uint16(v))
}
