package span

import (
	"strconv"
	"strings"

	"baffle/api"
)

// text returns the text of a right span.
func (x Span) text() string {
	from := decimal(x.From)
	if x.From == x.To {
		return from
	}
	return from + "-" + decimal(x.To)
}

// decimal returns the text of a number.
func decimal(n uint32) string { return strconv.FormatUint(uint64(n), 10) }

// Text returns the text of a set.
func Text(s Set) (string, api.Errno) {
	if e := check(s); e != api.OK {
		return "", e
	}
	parts := make([]string, len(s))
	for i, x := range s {
		parts[i] = x.text()
	}
	return strings.Join(parts, ","), api.OK
}

// Read returns the set of a text.
func Read(t string) (Set, api.Errno) {
	s, ok := readSpans(t)
	if !ok {
		return nil, ErrText
	}
	// Spans are read from more than their texts; what is written of them is the text.
	if text, e := Text(s); e != api.OK || text != t {
		return nil, ErrText
	}
	return s, api.OK
}

// readSpans returns the spans of a string, right or not, and whether there are some; there are none if they are too many for a set.
func readSpans(t string) (Set, bool) {
	if t == "" { // otherwise it would be one span without numbers
		return nil, true
	}
	var s Set
	for part := range strings.SplitSeq(t, ",") {
		x, ok := readSpan(part)
		if !ok || len(s) == MaxSpans {
			return nil, false
		}
		s = append(s, x)
	}
	return s, true
}

// readSpan returns the span of a string, right or not, and whether there is one.
func readSpan(t string) (Span, bool) {
	before, after, two := strings.Cut(t, "-")
	if !two {
		after = before
	}
	from, err := strconv.ParseUint(before, 10, 32)
	if err != nil {
		return Span{}, false
	}
	to, err := strconv.ParseUint(after, 10, 32)
	if err != nil {
		return Span{}, false
	}
	return Span{From: uint32(from), To: uint32(to)}, true
}
