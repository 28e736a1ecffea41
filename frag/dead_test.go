package frag

import (
	"slices"
	"testing"

	"baffle/api"
	"baffle/ip"
)

// piece is a fragment of a datagram: from where on, how many bytes, and whether there are more.
type piece struct {
	from, n int
	more    bool
}

// packet returns the packet of a piece, all of whose bytes are one.
func (p piece) packet(t *testing.T, x byte) []byte {
	t.Helper()
	return packed(t, ip.Header{ID: 8, MF: p.more, Offset: p.from, TTL: 1, Src: 7}, slices.Repeat([]byte{x}, p.n))
}

// P7.3: what makes a group dead, and what just does not; the last piece is the one that does.
func TestDead(t *testing.T) {
	for _, c := range []struct {
		l    []piece
		dead bool
	}{
		{[]piece{{0, 8, true}, {0, 8, true}}, true}, // there twice
		{[]piece{{8, 24, true}, {8, 24, true}}, true},
		{[]piece{{8, 24, true}, {0, 16, true}}, true}, // over the begin of another one
		{[]piece{{8, 24, true}, {0, 8, true}}, false},
		{[]piece{{8, 24, true}, {24, 16, true}}, true}, // over its end
		{[]piece{{8, 24, true}, {32, 16, true}}, false},
		{[]piece{{8, 24, true}, {16, 8, true}}, true}, // within it
		{[]piece{{16, 8, true}, {8, 24, true}}, true}, // around it
		{[]piece{{0, 8, true}, {16, 8, true}, {8, 16, true}}, true},
		{[]piece{{0, 8, true}, {16, 8, true}, {8, 8, true}}, false},
		{[]piece{{16, 8, true}, {8, 9, false}}, true}, // by one byte
		{[]piece{{16, 8, true}, {8, 8, false}}, true}, // before it, but the datagram ends there
		{[]piece{{8, 9, false}, {16, 8, true}}, true},
		{[]piece{{8, 1, false}, {8, 8, true}}, true}, // one byte
		{[]piece{{8, 8, true}, {8, 1, false}}, true},
		{[]piece{{0, 8, true}, {24, 1, false}, {24, 1, false}}, true}, // a last one twice
		{[]piece{{0, 8, true}, {24, 1, false}, {24, 2, false}}, true},
		{[]piece{{24, 0, false}, {24, 0, false}}, true},
		{[]piece{{16, 8, false}, {24, 0, false}}, true}, // all bytes are in both datagrams
		{[]piece{{24, 0, false}, {16, 8, false}}, true},
		{[]piece{{24, 0, false}, {16, 4, false}}, true},
		{[]piece{{16, 4, false}, {24, 4, false}}, true}, // a second last one, which is greater
		{[]piece{{24, 4, false}, {16, 4, false}}, true}, // or less
		{[]piece{{24, 8, true}, {16, 8, false}}, true},  // a last one before an earlier part
		{[]piece{{24, 8, true}, {24, 0, false}}, true},
		{[]piece{{24, 8, true}, {16, 0, false}}, true},
		{[]piece{{24, 8, true}, {32, 0, false}}, false},
		{[]piece{{24, 8, true}, {32, 3, false}}, false},
		{[]piece{{24, 8, true}, {0, 8, true}, {16, 8, false}}, true},
		{[]piece{{16, 8, false}, {24, 8, true}}, true}, // a part behind an earlier last one
		{[]piece{{16, 4, false}, {24, 8, true}}, true},
		{[]piece{{16, 4, false}, {8, 8, true}}, false},
		{[]piece{{16, 4, false}, {8, 16, true}}, true},
		{[]piece{{16, 0, false}, {16, 8, true}}, true},
		{[]piece{{16, 0, false}, {8, 16, true}}, true},
		{[]piece{{16, 0, false}, {8, 8, true}}, false},
		{[]piece{{16, 0, false}, {24, 8, true}}, true},
		{[]piece{{24, 8, false}, {8, 8, true}, {16, 8, true}}, false},
		{[]piece{{65512, 3, false}, {65504, 8, true}}, false},
		{[]piece{{65512, 3, false}, {65496, 16, true}}, false},
		{[]piece{{65512, 2, false}, {65504, 8, true}, {65504, 8, true}}, true},
	} {
		p := begin(t, 1, 50)
		n := 0
		for i, x := range c.l[:len(c.l)-1] {
			p.comes(i, x.packet(t, byte(i)), nil)
			n += x.n
		}
		last := c.l[len(c.l)-1]
		if !c.dead {
			p.comes(9, last.packet(t, 9), nil)
			p.has(Group{Src: 7, ID: 8, Bytes: n + last.n})
			continue
		}
		p.dies(9, last.packet(t, 9))
		p.has(Group{Src: 7, ID: 8, Dead: true})
	}
}

// P7.3: a dead group stays dead, whatever is put, up to its end; then it begins again.
func TestDeadStays(t *testing.T) {
	p := begin(t, 2, 20)
	p.comes(3, piece{8, 8, true}.packet(t, 1), nil)
	p.dies(4, piece{8, 8, true}.packet(t, 1))
	dead := Group{Src: 7, ID: 8, Begin: 3, Dead: true}
	whole := packed(t, ip.Header{ID: 8, TTL: 1, Src: 7}, some(16))
	for now := 5; now < 23; now++ {
		p.dies(now, piece{0, 8, true}.packet(t, 2)) // neither what was there, nor what is put now, is a part
		p.dies(now, piece{8, 8, false}.packet(t, 3))
		p.dies(now, piece{800, 8, true}.packet(t, 4))
		p.dies(now, piece{16, 0, false}.packet(t, 5))
		p.comes(now, whole, whole)
		p.has(dead)
	}
	p.comes(23, piece{0, 8, true}.packet(t, 6), nil)
	p.has(Group{Src: 7, ID: 8, Begin: 23, Bytes: 8})
	p.comes(24, piece{8, 8, false}.packet(t, 7), packed(t, ip.Header{ID: 8, TTL: 1, Src: 7}, []byte{6, 6, 6, 6, 6, 6, 6, 6, 7, 7, 7, 7, 7, 7, 7, 7}))
	p.has()
}

// P7.3: what is completed makes the group dead if its header is not right for so much data.
func TestDeadWhole(t *testing.T) {
	for _, c := range []struct {
		options, n int
		dead       bool
	}{{0, 65515, false}, {4, 65511, false}, {4, 65512, true}, {4, 65515, true}, {36, 65480, true}, {40, 65475, false}, {40, 65476, true}, {40, 65515, true}, {40, 100, false}} {
		first := ip.Header{ID: 4, MF: true, TTL: 1, Options: some(c.options)}
		rest := ip.Header{ID: 4, Offset: 8, TTL: 1}
		data := some(c.n)
		whole := first
		whole.MF = false
		for _, forth := range []bool{true, false} {
			l := [][]byte{packed(t, first, data[:8]), packed(t, rest, data[8:])}
			if !forth {
				slices.Reverse(l)
			}
			p := begin(t, 1, 9)
			p.comes(1, l[0], nil)
			if !c.dead {
				p.comes(2, l[1], packed(t, whole, data))
				p.has()
				continue
			}
			if ip.Right(whole, c.n) {
				t.Fatal(c)
			}
			p.dies(2, l[1])
			p.has(Group{ID: 4, Begin: 1, Dead: true})
			p.dies(9, l[0])
			p.tick(10)
			p.has()
		}
	}
	late := ip.Header{ID: 4, Offset: 8, TTL: 1, Options: some(4)} // only the options of the first fragment count
	p := begin(t, 1, 9)
	p.comes(0, packed(t, late, some(65507)), nil)
	p.comes(0, packed(t, ip.Header{ID: 4, MF: true, TTL: 2}, some(8)), packed(t, ip.Header{ID: 4, TTL: 2}, slices.Concat(some(8), some(65507))))
}

// P7.3 and P7.5: up to four fragments out of all short ones do what the chapter says.
func TestAllShort(t *testing.T) {
	var l [][]byte
	for from := 0; from < 32; from += 8 {
		for _, n := range []int{8, 16} {
			l = append(l, piece{from, n, true}.packet(t, byte(len(l))))
		}
		for _, n := range []int{0, 1, 8, 9} {
			if from > 0 {
				l = append(l, piece{from, n, false}.packet(t, byte(len(l))))
			}
		}
	}
	var wholes, deads int
	for i := range len(l) * len(l) * len(l) * len(l) {
		p := begin(t, 1, 3)
		for range 4 {
			b, e := p.put(0, l[i%len(l)])
			i /= len(l)
			if b != nil {
				wholes++
			}
			if e != api.OK {
				deads++
				break
			}
		}
	}
	if wholes < 1000 || deads < 1000 {
		t.Error(wholes, deads)
	}
}
