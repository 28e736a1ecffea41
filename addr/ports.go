package addr

import (
	"math"
	"strings"

	"baffle/api"
)

// all is the text of the range of all ports.
const all = "*"

// RightRange reports whether a range is right.
func RightRange(r api.Range) bool { return r.From <= r.To }

// In reports whether a range has a port.
func In(r api.Range, port uint16) bool { return r.From <= port && port <= r.To }

// RangeText returns the text of a range.
func RangeText(r api.Range) (string, api.Errno) {
	switch {
	case !RightRange(r):
		return "", ErrRange
	case r == api.Range{From: 0, To: math.MaxUint16}:
		return all, api.OK
	case r.From == r.To:
		return decimal(r.From), api.OK
	}
	return decimal(r.From) + "-" + decimal(r.To), api.OK
}

// ReadRange returns the range of a text.
func ReadRange(s string) (api.Range, api.Errno) {
	if s == all {
		return api.Range{From: 0, To: math.MaxUint16}, api.OK
	}
	before, after, two := strings.Cut(s, "-")
	if !two {
		after = before
	}
	from, ok := number[uint16](before)
	to, also := number[uint16](after)
	r := api.Range{From: from, To: to}
	if text, e := RangeText(r); !ok || !also || e != api.OK || text != s { // one port and all ports have shorter texts
		return api.Range{}, ErrText
	}
	return r, api.OK
}
