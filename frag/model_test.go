package frag

import (
	"slices"
	"testing"

	"baffle/api"
	"baffle/ip"
)

// story is what has become of a table, as the chapter defines it: of each group all fragments that were put are kept.
type story struct {
	limit, life, now int
	groups           []*saga // in the order in which they began
}

// saga is the story of a group; bytes are those of the datagram, by their place.
type saga struct {
	told  Group
	bytes map[int]byte
	ends  int // where an earlier last one ended the datagram, or -1
	first ip.Header
}

// tick makes a time the time.
func (s *story) tick(now int) api.Errno {
	if now < s.now || now > 1<<40 {
		return 70
	}
	s.now = now
	s.groups = slices.DeleteFunc(s.groups, func(g *saga) bool { return g.told.Begin+s.life <= now })
	return api.OK
}

// put adds a packet.
func (s *story) put(now int, b []byte) ([]byte, api.Errno) {
	h, from, to, e := ip.Read(b)
	if now >= s.now && now <= 1<<40 && e != api.OK {
		return nil, e
	}
	if e := s.tick(now); e != api.OK {
		return nil, e
	}
	if !h.MF && h.Offset == 0 {
		return b[:to], api.OK
	}
	at := slices.IndexFunc(s.groups, func(g *saga) bool {
		return g.told.Src == h.Src && g.told.Dst == h.Dst && g.told.Proto == h.Proto && g.told.ID == h.ID
	})
	if at < 0 {
		if len(s.groups) == s.limit {
			s.groups = s.groups[1:]
		}
		s.groups = append(s.groups, &saga{told: Group{h.Src, h.Dst, h.Proto, h.ID, now, 0, false}, bytes: map[int]byte{}, ends: -1})
		at = len(s.groups) - 1
	}
	g := s.groups[at]
	whole := g.add(h, b[from:to])
	g.told.Bytes = len(g.bytes)
	if g.told.Dead {
		g.told.Bytes = 0
		return nil, 71
	}
	if whole != nil {
		s.groups = slices.Delete(s.groups, at, at+1)
	}
	return whole, api.OK
}

// add adds a fragment, byte by byte, and returns the whole if this completes the group.
func (g *saga) add(h ip.Header, data []byte) []byte {
	end := h.Offset + len(data)
	for i, x := range data {
		place := h.Offset + i
		if _, there := g.bytes[place]; there || g.ends >= 0 && place >= g.ends {
			g.told.Dead = true
		}
		g.bytes[place] = x
	}
	if !h.MF {
		for place := range g.bytes {
			if place >= end {
				g.told.Dead = true
			}
		}
		if g.ends >= 0 {
			g.told.Dead = true
		}
		g.ends = end
	}
	if h.Offset == 0 {
		g.first = h
	}
	if g.told.Dead || g.ends < 0 || len(g.bytes) < g.ends {
		return nil
	}
	all := make([]byte, g.ends)
	for i := range all {
		all[i] = g.bytes[i]
	}
	g.first.MF = false
	whole, e := ip.Write(g.first, all)
	g.told.Dead = e != api.OK
	return whole
}

// told returns what is told of all groups.
func (s *story) told() []Group {
	var l []Group
	for _, g := range s.groups {
		l = append(l, g.told)
	}
	return l
}

// pair is a table, and its story.
type pair struct {
	t     *testing.T
	table *Table
	story *story
}

// begin returns a table without groups, and its story.
func begin(t *testing.T, limit, life int) *pair {
	t.Helper()
	table, e := New(limit, life)
	if table == nil || e != api.OK {
		t.Fatal(limit, life, e)
	}
	p := &pair{t, table, &story{limit: limit, life: life}}
	p.same()
	return p
}

// same checks that the table is as its story is.
func (p *pair) same() {
	p.t.Helper()
	if got, want := p.table.Groups(), p.story.told(); !slices.Equal(got, want) || p.table.Now() != p.story.now {
		p.t.Fatalf("at %d, not %d: %v, want %v", p.table.Now(), p.story.now, got, want)
	}
}

// put puts a packet, checks what comes of it, and returns it.
func (p *pair) put(now int, b []byte) ([]byte, api.Errno) {
	p.t.Helper()
	room := append(slices.Clone(b), some(9)...)
	before := slices.Clone(room)
	got, e := p.table.Put(now, room[:len(b)])
	want, f := p.story.put(now, b)
	if !slices.Equal(got, want) || e != f || e != api.OK && got != nil {
		p.t.Fatal("at", now, b[:min(len(b), 60)], len(b), "comes", got[:min(len(got), 60)], len(got), e, "want", want[:min(len(want), 60)], len(want), f)
	}
	if !slices.Equal(room, before) {
		p.t.Fatal("the argument is modified:", room, before)
	}
	p.same()
	return got, e
}

// tick makes a time the time, and checks what becomes of the groups.
func (p *pair) tick(now int) api.Errno {
	p.t.Helper()
	e := p.table.Tick(now)
	if want := p.story.tick(now); e != want {
		p.t.Fatal(now, e, want)
	}
	p.same()
	return e
}

// comes puts a packet, and checks that a packet comes of it; none is nil.
func (p *pair) comes(now int, b, want []byte) {
	p.t.Helper()
	if got, e := p.put(now, b); !slices.Equal(got, want) || e != api.OK {
		p.t.Fatal("at", now, b, "comes", got, e, "want", want)
	}
}

// dies puts a packet, and checks that its group is dead.
func (p *pair) dies(now int, b []byte) {
	p.t.Helper()
	if got, e := p.put(now, b); got != nil || e != ErrDead {
		p.t.Fatal("at", now, b, "comes", got, e)
	}
}

// has checks what is told of the groups.
func (p *pair) has(want ...Group) {
	p.t.Helper()
	if got := p.table.Groups(); !slices.Equal(got, want) {
		p.t.Fatal(got, "want", want)
	}
}
