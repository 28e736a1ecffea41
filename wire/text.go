package wire

import (
	"strings"

	"baffle/api"
)

const digits = "0123456789abcdef"

// Hex returns the text of bytes.
func Hex(b []byte) (string, api.Errno) {
	if len(b) > MaxBytes {
		return "", api.ErrLong
	}
	s := make([]byte, 0, 2*len(b))
	for _, x := range b {
		s = append(s, digits[x>>4], digits[x&15])
	}
	return string(s), api.OK
}

// Unhex returns the bytes whose text s is.
func Unhex(s string) (b []byte, e api.Errno) {
	if len(s) > 2*MaxBytes {
		return nil, api.ErrLong
	}
	if len(s)%2 != 0 {
		return nil, ErrText
	}
	defer func() {
		if recover() != nil {
			b, e = nil, ErrText
		}
	}()
	b = make([]byte, len(s)/2)
	for i := range b {
		b[i] = digit(s[2*i])<<4 | digit(s[2*i+1])
	}
	return b, api.OK
}

// digit returns the number of a digit. It panics for a wrong one, so that whoever puts numbers together needs to ask once only.
func digit(c byte) byte {
	i := strings.IndexByte(digits, c)
	if i < 0 {
		panic(ErrText)
	}
	return byte(i)
}
