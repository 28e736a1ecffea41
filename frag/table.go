package frag

import (
	"bytes"
	"slices"

	"baffle/api"
	"baffle/ip"
)

// Table puts fragments together.
type Table struct {
	self        *Table // a copy is no table: it does not point to itself
	limit, life int
	now         int
	groups      map[name]*group
	order       []*group // the same groups, those that began first first
}

// New returns a table without groups.
func New(limit, life int) (*Table, api.Errno) {
	if limit < 1 || limit > MaxGroups || life < 1 || life > api.MaxTimeout {
		return nil, api.ErrArg
	}
	t := &Table{limit: limit, life: life, groups: map[name]*group{}}
	t.self = t
	return t, api.OK
}

func (t *Table) made() bool { return t != nil && t.self == t }

// fault returns what is wrong with a time, or with the table.
func (t *Table) fault(now int) api.Errno {
	if !t.made() {
		return api.ErrNil
	}
	if now < t.now || now > api.MaxTick {
		return ErrTime
	}
	return api.OK
}

// Put adds a packet.
func (t *Table) Put(now int, b []byte) ([]byte, api.Errno) {
	if e := t.fault(now); e != api.OK {
		return nil, e
	}
	h, from, to, e := ip.Read(b)
	if e != api.OK {
		return nil, e
	}
	t.advance(now)
	if !h.MF && h.Offset == 0 {
		return bytes.Clone(b[:to]), api.OK
	}
	f := fragment{head: h, data: b[from:to]}
	g := t.group(f.name())
	whole, e := g.put(f)
	if whole != nil {
		t.forget(g)
	}
	return whole, e
}

// Tick makes a time the time.
func (t *Table) Tick(now int) api.Errno {
	if e := t.fault(now); e != api.OK {
		return e
	}
	t.advance(now)
	return api.OK
}

// advance makes a right time the time.
func (t *Table) advance(now int) {
	t.now = now
	for len(t.order) > 0 && now-t.order[0].begin >= t.life { // all live equally long, so they are over in this order
		t.forget(t.order[0])
	}
}

// group returns the group with a name; if there is none, one begins.
func (t *Table) group(n name) *group {
	if g := t.groups[n]; g != nil {
		return g
	}
	if len(t.order) == t.limit {
		t.forget(t.order[0])
	}
	g := &group{name: n, begin: t.now}
	t.groups[n] = g
	t.order = append(t.order, g)
	return g
}

// forget takes a group away.
func (t *Table) forget(g *group) {
	delete(t.groups, g.name)
	t.order = slices.DeleteFunc(t.order, func(x *group) bool { return x == g })
}

// Now returns the time.
func (t *Table) Now() int {
	if !t.made() {
		return 0
	}
	return t.now
}

// Groups returns all groups.
func (t *Table) Groups() []Group {
	if !t.made() {
		return nil
	}
	var l []Group
	for _, g := range t.order {
		l = append(l, g.facts())
	}
	return l
}
