package addr

import (
	"cmp"
	"strings"

	"baffle/api"
)

// Turn returns a key turned.
func Turn(k api.Key) api.Key {
	return api.Key{Proto: k.Proto, Src: k.Dst, Dst: k.Src, SrcPort: k.DstPort, DstPort: k.SrcPort}
}

// Compare compares keys.
func Compare(a, b api.Key) int {
	order := 0
	part := func(x, y uint32) {
		if order == 0 { // a part counts only if all before it are equal
			order = cmp.Compare(x, y)
		}
	}
	part(uint32(a.Proto), uint32(b.Proto))
	part(a.Src, b.Src)
	part(uint32(a.SrcPort), uint32(b.SrcPort))
	part(a.Dst, b.Dst)
	part(uint32(a.DstPort), uint32(b.DstPort))
	return order
}

// KeyText returns the text of a key.
func KeyText(k api.Key) string {
	return decimal(k.Proto) + " " + endText(k.Src, k.SrcPort) + " " + endText(k.Dst, k.DstPort)
}

// ReadKey returns the key of a text.
func ReadKey(s string) (api.Key, api.Errno) {
	parts := strings.SplitN(s, " ", 3) // a fourth part makes the third one no end
	if len(parts) != 3 {
		return api.Key{}, ErrText
	}
	proto, ok := number[uint8](parts[0])
	src, srcPort, e := readEnd(parts[1])
	dst, dstPort, f := readEnd(parts[2])
	if !ok || e != api.OK || f != api.OK {
		return api.Key{}, ErrText
	}
	return api.Key{Proto: proto, Src: src, Dst: dst, SrcPort: srcPort, DstPort: dstPort}, api.OK
}

// endText returns the text of one end of a key.
func endText(a uint32, port uint16) string { return Text(a) + ":" + decimal(port) }

// readEnd returns the address and the port of one end of a key.
func readEnd(s string) (uint32, uint16, api.Errno) {
	before, after, _ := strings.Cut(s, ":") // without a : there is no number after it
	a, e := Read(before)
	port, ok := number[uint16](after)
	if e != api.OK || !ok {
		return 0, 0, ErrText
	}
	return a, port, api.OK
}
