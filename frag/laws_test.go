package frag

import (
	"math/rand"
	"slices"
	"testing"

	"baffle/api"
	"baffle/ip"
)

// orders calls f with every order of n numbers.
func orders(n int, f func(order []int)) {
	var next func(order []int)
	next = func(order []int) {
		if len(order) == n {
			f(order)
			return
		}
		for i := range n {
			if !slices.Contains(order, i) {
				next(append(slices.Clone(order), i))
			}
		}
	}
	next(nil)
}

// P7.5: the pieces of a packet in every order give the packet, if none is missing.
func TestEveryOrder(t *testing.T) {
	h := ip.Header{TOS: 4, ID: 77, TTL: 5, Proto: 6, Src: 8, Dst: 9, Options: some(12)}
	for _, n := range []int{9, 17, 24, 33, 40, 41} {
		whole := packed(t, h, some(n))
		l, _ := Split(whole, 8)
		orders(len(l), func(order []int) {
			p := begin(t, 1, 10)
			for i, at := range order {
				want := whole
				if i < len(l)-1 {
					want = nil
				}
				p.comes(i, l[at], want)
			}
			p.has()
		})
	}
}

// P7.5: with a piece missing there is nothing; with one there twice the group is dead, in whatever order.
func TestMissingAndTwice(t *testing.T) {
	whole := packed(t, heads()[0], some(37))
	l, _ := Split(whole, 8)
	for at := range l {
		missing := slices.Delete(slices.Clone(l), at, at+1)
		orders(len(missing), func(order []int) {
			p := begin(t, 1, 10)
			for _, i := range order {
				p.comes(0, missing[i], nil)
			}
		})
		twice := append(slices.Clone(missing[1:]), l[at], l[at]) // another one is missing, for otherwise the group may be complete before
		orders(len(twice), func(order []int) {
			p := begin(t, 1, 10)
			var dead bool
			for _, i := range order {
				b, e := p.put(0, twice[i])
				if b != nil || dead && e != ErrDead {
					t.Fatal(at, order, b, e)
				}
				dead = e == ErrDead
			}
			if !dead {
				t.Fatal(at, order)
			}
		})
	}
}

// P7.5: pieces that are split again give the packet, too, whatever their sizes are and in whatever order they come, between those of others.
func TestSplitAndPut(t *testing.T) {
	r := rand.New(rand.NewSource(76))
	for range 400 {
		p := begin(t, 64, 10)
		var all [][]byte
		left := map[int]int{}
		var wholes [][]byte
		for k := range 1 + r.Intn(6) {
			h := ip.Header{TOS: uint8(k), ID: uint16(k), TTL: uint8(r.Uint32()), Src: uint32(k % 2), Options: some(4 * r.Intn(11))}
			wholes = append(wholes, packed(t, h, some(1+r.Intn(400))))
			l, _ := Split(wholes[k], 8*(1+r.Intn(20)))
			for _, b := range l {
				again, e := Split(b, 8*(1+r.Intn(20)))
				if e != api.OK {
					t.Fatal(e)
				}
				all = append(all, again...)
				left[k] += len(again)
			}
		}
		r.Shuffle(len(all), func(i, j int) { all[i], all[j] = all[j], all[i] })
		for i, b := range all {
			k := int(b[5])
			left[k]--
			var want []byte
			if left[k] == 0 {
				want = wholes[k]
			}
			p.comes(10*i/len(all), b, want)
		}
		p.has()
	}
}

// P7.5: the greatest packet in its least pieces.
func TestLongest(t *testing.T) {
	whole := packed(t, ip.Header{ID: 3, TTL: 1, Proto: 17}, some(65515))
	l, e := Split(whole, 8)
	if e != api.OK || len(l) != 8190 {
		t.Fatal(len(l), e)
	}
	rand.New(rand.NewSource(77)).Shuffle(len(l), func(i, j int) { l[i], l[j] = l[j], l[i] })
	table, _ := New(1, 1)
	for i, b := range l {
		got, e := table.Put(0, b)
		if e != api.OK || (got != nil) != (i == len(l)-1) || got != nil && !slices.Equal(got, whole) {
			t.Fatal(i, len(got), e)
		}
	}
}

// P7.2 to P7.5: random packets and ticks do what the chapter says.
func TestLikeItsStory(t *testing.T) {
	r := rand.New(rand.NewSource(78))
	none := values(wrongs(t))
	counts := map[api.Errno]int{}
	wholes := 0
	for range 3000 {
		p := begin(t, 1+r.Intn(4), 1+r.Intn(12))
		now, ids := 0, 1+r.Intn(6)
		for range 60 {
			now += r.Intn(3) * r.Intn(2)
			at := now - r.Intn(2)*r.Intn(2)*r.Intn(3)
			switch r.Intn(12) {
			case 0:
				p.tick(at)
			case 1:
				_, e := p.put(at, none[r.Intn(len(none))])
				counts[e]++
			default:
				b := randomPacket(t, r, ids)
				got, e := p.put(at, b)
				counts[e]++
				if got != nil && (b[6]&0x3f != 0 || b[7] != 0) {
					wholes++
				}
			}
			now = max(now, p.table.Now())
		}
	}
	if wholes < 1000 || counts[ErrDead] < 1000 || counts[ErrTime] < 1000 || counts[api.OK] < 1000 || counts[ip.ErrFlags] < 100 {
		t.Error("this tries too little:", wholes, counts)
	}
}

// randomPacket returns a packet of one of few short datagrams.
func randomPacket(t *testing.T, r *rand.Rand, ids int) []byte {
	for {
		id := r.Intn(ids)
		h := ip.Header{ID: uint16(id), MF: r.Intn(3) > 0, DF: r.Intn(2) > 0, Offset: 8 * r.Intn(3), TTL: uint8(r.Intn(3)), Dst: uint32(id / 4), Options: some(4 * r.Intn(3))}
		n := 8 * (1 + r.Intn(2))
		if !h.MF {
			n = r.Intn(10)
		}
		if ip.Right(h, n) {
			data := make([]byte, n)
			r.Read(data)
			return append(packed(t, h, data), some(r.Intn(3))...)
		}
	}
}

// P7.3: what is put is not kept, and what is returned shares memory with nothing.
func TestPutMemory(t *testing.T) {
	h := ip.Header{ID: 3, TTL: 1, Options: some(8)}
	whole := packed(t, h, some(40))
	l, _ := Split(whole, 8)
	table, _ := New(2, 9)
	room := make([]byte, 100)
	var got []byte
	for _, b := range l {
		copy(room, b)
		got, _ = table.Put(0, room[:len(b)])
		clear(room)
	}
	if !slices.Equal(got, whole) {
		t.Error("what is put is kept:", got, whole)
	}
	copy(room, whole)
	same, e := table.Put(0, room)
	_ = append(same, some(70)...)
	clear(same[:cap(same)])
	if !slices.Equal(room[:len(whole)], whole) || slices.Max(room[len(whole):]) != 0 || e != api.OK {
		t.Error("the result shares memory with the argument:", room, e)
	}
	other, _ := table.Put(0, whole)
	clear(room)
	clear(got[:cap(got)])
	if !slices.Equal(other, whole) {
		t.Error("two results share memory:", other)
	}
}
