package frag

import (
	"math"
	"slices"
	"testing"

	"baffle/api"
	"baffle/ip"
)

// P7.2: limits and lives; what is not right makes no table.
func TestNew(t *testing.T) {
	limits := map[int]bool{math.MinInt: false, -1: false, 0: false, 1: true, 2: true, 63: true, 64: true, 65: false, 1 << 32: false, 1<<32 + 1: false, math.MaxInt: false}
	lives := map[int]bool{math.MinInt: false, -1: false, 0: false, 1: true, 2: true, 1<<24 - 1: true, 1 << 24: false, 1<<32 + 1: false, math.MaxInt: false}
	for limit, some := range limits {
		for life, long := range lives {
			table, e := New(limit, life)
			if !some || !long {
				if table != nil || e != api.ErrArg {
					t.Error(limit, life, table, e)
				}
				continue
			}
			if table == nil || e != api.OK || table.Now() != 0 || len(table.Groups()) != 0 {
				t.Error(limit, life, table, e)
			}
		}
	}
}

// P7.2: times that are right, and what comes after one that is not.
func TestTick(t *testing.T) {
	p := begin(t, 2, 9)
	for _, c := range []struct {
		now, time int
		e         api.Errno
	}{
		{0, 0, api.OK}, {-1, 0, ErrTime}, {math.MinInt, 0, ErrTime}, {1<<40 + 1, 0, ErrTime}, {math.MaxInt, 0, ErrTime}, {3, 3, api.OK}, {3, 3, api.OK}, {2, 3, ErrTime}, {0, 3, ErrTime}, {-3, 3, ErrTime}, {4, 4, api.OK},
		{1<<40 - 1, 1<<40 - 1, api.OK}, {1<<40 - 2, 1<<40 - 1, ErrTime}, {1<<40 + 1, 1<<40 - 1, ErrTime}, {1 << 40, 1 << 40, api.OK}, {1 << 40, 1 << 40, api.OK}, {1<<40 - 1, 1 << 40, ErrTime}, {1<<40 + 1, 1 << 40, ErrTime}, {1 << 41, 1 << 40, ErrTime}, {1 << 40, 1 << 40, api.OK},
	} {
		if e := p.tick(c.now); e != c.e || p.table.Now() != c.time {
			t.Error(c, e, p.table.Now())
		}
	}
}

// P7.2: a time that is not right forgets nothing.
func TestTickChangesNothing(t *testing.T) {
	p := begin(t, 3, 5)
	p.comes(7, packed(t, heads()[2], some(8)), nil)
	p.comes(8, packed(t, heads()[1], some(8)), nil)
	told := p.table.Groups()
	for _, now := range []int{7, 0, -1, 1<<40 + 1, math.MaxInt, math.MinInt} {
		if e := p.tick(now); e != ErrTime || p.table.Now() != 8 || !slices.Equal(p.table.Groups(), told) {
			t.Error(now, e, p.table.Now(), p.table.Groups())
		}
	}
}

// P7.2: a group lives up to the last tick of its life, and is over at the next one; that more is put makes it live no longer.
func TestOver(t *testing.T) {
	for _, life := range []int{1, 2, 10, 1<<24 - 1} {
		p := begin(t, 4, life)
		h := ip.Header{ID: 4, MF: true, TTL: 1}
		g := Group{ID: 4, Begin: 3, Bytes: 8}
		p.comes(3, packed(t, h, some(8)), nil)
		p.tick(3 + life - 1)
		p.has(g)
		h.Offset = 8
		p.comes(3+life-1, packed(t, h, some(16)), nil)
		g.Bytes = 24
		p.has(g)
		p.tick(3 + life)
		p.has()
		p.comes(3+life, packed(t, h, some(16)), nil) // another group with the same name
		p.has(Group{ID: 4, Begin: 3 + life, Bytes: 16})
		p.tick(3 + 2*life - 1)
		p.has(Group{ID: 4, Begin: 3 + life, Bytes: 16})
		p.tick(1 << 40)
		p.has()
	}
}

// P7.2: all groups that are over are forgotten, and no others.
func TestOverSome(t *testing.T) {
	p := begin(t, 64, 10)
	h := ip.Header{MF: true, TTL: 1}
	var l []Group
	for i := range 20 {
		h.ID = uint16(i)
		p.comes(i/2, packed(t, h, some(8)), nil)
		l = append(l, Group{ID: uint16(i), Begin: i / 2, Bytes: 8})
	}
	for now := 9; now < 22; now++ {
		p.tick(now)
		p.has(l[min(20, 2*max(0, now-9)):]...)
	}
	if p.table.Now() != 21 {
		t.Error(p.table.Now())
	}
}

// P7.2 and P7.3: groups at the greatest times.
func TestLastTicks(t *testing.T) {
	p := begin(t, 4, 1<<24-1)
	h := ip.Header{MF: true, TTL: 1}
	b := packed(t, h, some(8))
	p.comes(1<<40-1<<24, b, nil)
	p.comes(1<<40-1, packed(t, ip.Header{ID: 1, MF: true}, some(8)), nil)
	p.has(Group{ID: 1, Begin: 1<<40 - 1, Bytes: 8})
	p.comes(1<<40, b, nil)
	p.has(Group{ID: 1, Begin: 1<<40 - 1, Bytes: 8}, Group{Begin: 1 << 40, Bytes: 8})
	h.MF, h.Offset = false, 8
	p.comes(1<<40, packed(t, h, some(8)), packed(t, ip.Header{TTL: 1}, slices.Repeat(some(8), 2)))
	if got, e := p.put(1<<40+1, b); got != nil || e != ErrTime {
		t.Error(got, e)
	}
}

// R8: what New did not return is no table, and nothing becomes of it.
func TestNoTable(t *testing.T) {
	table, _ := New(3, 9)
	piece := packed(t, heads()[1], some(8))
	table.Put(5, piece)
	copied := *table
	for name, no := range map[string]*Table{"nil": nil, "zero": {}, "copied": &copied} {
		for _, now := range []int{0, 5, 6, -1, 1<<40 + 1} {
			for _, b := range [][]byte{piece, packed(t, heads()[0], some(8)), nil, some(30)} { // whatever else is wrong
				if got, e := no.Put(now, b); got != nil || e != api.ErrNil {
					t.Error(name, now, b, got, e)
				}
			}
			if e := no.Tick(now); e != api.ErrNil {
				t.Error(name, now, e)
			}
			if no.Now() != 0 || len(no.Groups()) != 0 {
				t.Error(name, no.Now(), no.Groups())
			}
		}
	}
	if table.Now() != 5 || len(table.Groups()) != 1 {
		t.Error("a copy has changed its original:", table.Now(), table.Groups())
	}
}

// R4: tables do not share what they have.
func TestTwoTables(t *testing.T) {
	a, b := begin(t, 3, 9), begin(t, 3, 9)
	l, _ := Split(packed(t, heads()[0], some(16)), 8)
	a.comes(4, l[0], nil)
	b.comes(6, l[1], nil)
	b.comes(6, l[0], packed(t, heads()[0], some(16)))
	a.comes(5, l[1], packed(t, heads()[0], some(16)))
}
