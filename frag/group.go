package frag

import (
	"bytes"
	"iter"

	"baffle/api"
	"baffle/ip"
)

// name is what the fragments of a group have in common.
type name struct {
	src, dst uint32
	proto    uint8
	id       uint16
}

// fragment is a packet that is one.
type fragment struct {
	head ip.Header
	data []byte
}

func (f fragment) name() name {
	return name{src: f.head.Src, dst: f.head.Dst, proto: f.head.Proto, id: f.head.ID}
}

// end returns where the part of a fragment ends.
func (f fragment) end() int { return f.head.Offset + len(f.data) }

// last reports whether a fragment ends the datagram.
func (f fragment) last() bool { return !f.head.MF }

// part is the bytes of the datagram from an offset on.
type part struct {
	from int
	data []byte
}

// group is the fragments with one name.
type group struct {
	name  name
	begin int
	dead  bool

	parts []part
	first ip.Header // of the fragment with the Offset 0, if its part is there
	size  int       // the bytes of the datagram; 0 as long as there was no last one, which always has an Offset
}

// all yields the parts: where each begins, and its bytes.
func (g *group) all() iter.Seq2[int, []byte] {
	return func(yield func(from int, data []byte) bool) {
		for _, p := range g.parts {
			if !yield(p.from, p.data) {
				return
			}
		}
	}
}

// bytes returns how many bytes there are in the parts.
func (g *group) bytes() int {
	n := 0
	for _, data := range g.all() {
		n += len(data)
	}
	return n
}

// reach returns where the part ends that ends last.
func (g *group) reach() int {
	most := 0
	for from, data := range g.all() {
		most = max(most, from+len(data))
	}
	return most
}

// meets reports whether a byte of a fragment is in one of the parts. (One without data has no byte, even if it is within a part.)
func (g *group) meets(f fragment) bool {
	for from, data := range g.all() {
		if max(from, f.head.Offset) < min(from+len(data), f.end()) {
			return true
		}
	}
	return false
}

// kills reports whether a group becomes dead by a fragment before it completes the group.
func (g *group) kills(f fragment) bool {
	wrong := [...]func() bool{
		func() bool { return g.meets(f) },
		func() bool { return f.last() && (g.size > 0 || g.reach() > f.end()) },
		func() bool { return g.size > 0 && len(f.data) > 0 && f.end() > g.size },
	}
	for _, is := range wrong {
		if is() {
			return true
		}
	}
	return false
}

// put adds a fragment; if it completes the group, the whole is returned.
func (g *group) put(f fragment) ([]byte, api.Errno) {
	if g.dead || g.kills(f) {
		return g.die()
	}
	g.take(f)
	if g.size == 0 || g.bytes() < g.size { // no part meets another one, and none is behind the last one
		return nil, api.OK
	}
	whole, e := ip.Write(g.first, g.datagram())
	if e != api.OK { // the header is not right for so much data
		return g.die()
	}
	return whole, api.OK
}

// take keeps what is needed of a fragment.
func (g *group) take(f fragment) {
	g.parts = append(g.parts, part{from: f.head.Offset, data: bytes.Clone(f.data)})
	if f.head.Offset == 0 {
		g.first = f.head
		g.first.MF = false
	}
	if f.last() {
		g.size = f.end()
	}
}

// datagram returns the bytes of a group that is complete.
func (g *group) datagram() []byte {
	all := make([]byte, g.size)
	for from, data := range g.all() {
		copy(all[from:], data)
	}
	return all
}

// die makes a group dead, and returns what comes of its fragments then.
func (g *group) die() ([]byte, api.Errno) {
	*g = group{name: g.name, begin: g.begin, dead: true}
	return nil, ErrDead
}

// facts returns what is told of a group.
func (g *group) facts() Group {
	n := g.name
	return Group{Src: n.src, Dst: n.dst, Proto: n.proto, ID: n.id, Begin: g.begin, Bytes: g.bytes(), Dead: g.dead}
}
