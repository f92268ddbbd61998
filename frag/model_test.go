package frag_test

import (
	"bytes"
	"slices"
	"testing"

	"baffle/api"
	"baffle/frag"
	"baffle/ip"
)

// model is the definition of a table: all fragments of each group are kept, and gone through byte by byte.
type model struct {
	limit, life, now int
	groups           []*asked
}

// asked is a group, with all fragments that were put while it was not dead.
type asked struct {
	frag.Group
	pieces []fragment
}

// fragment is a header, and data.
type fragment struct {
	ip.Header
	data []byte
}

// has reports whether a byte of the datagram is in the part.
func (f fragment) has(at int) bool { return at >= f.Offset && at < f.Offset+len(f.data) }

func (m *model) tick(now int) api.Errno {
	if now < m.now || now > api.MaxTick {
		return frag.ErrTime
	}
	m.now = now
	m.groups = slices.DeleteFunc(m.groups, func(g *asked) bool { return g.Begin+m.life <= now })
	return api.OK
}

func (m *model) put(now int, b []byte) ([]byte, api.Errno) {
	if now < m.now || now > api.MaxTick {
		return nil, frag.ErrTime
	}
	h, from, to, e := ip.Read(b)
	if e != api.OK {
		return nil, e
	}
	m.tick(now)
	if !h.MF && h.Offset == 0 {
		return b[:to], api.OK
	}
	g := m.find(h)
	f := fragment{h, b[from:to]}
	if !g.Dead {
		g.Dead = g.spoiled(f)
		g.pieces = append(g.pieces, f)
		g.Bytes += len(f.data)
	}
	if g.Dead {
		g.pieces, g.Bytes = nil, 0
		return nil, frag.ErrDead
	}
	h, d, ok := g.whole()
	if !ok {
		return nil, api.OK
	}
	whole, e := ip.Write(h, d)
	if e != api.OK {
		g.pieces, g.Bytes, g.Dead = nil, 0, true
		return nil, frag.ErrDead
	}
	m.groups = slices.DeleteFunc(m.groups, func(other *asked) bool { return other == g })
	return whole, api.OK
}

// find returns the group of a header, which begins if there is none.
func (m *model) find(h ip.Header) *asked {
	for _, g := range m.groups {
		if g.Src == h.Src && g.Dst == h.Dst && g.Proto == h.Proto && g.ID == h.ID {
			return g
		}
	}
	if len(m.groups) == m.limit {
		m.groups = m.groups[1:]
	}
	g := &asked{Group: frag.Group{Src: h.Src, Dst: h.Dst, Proto: h.Proto, ID: h.ID, Begin: m.now}}
	m.groups = append(m.groups, g)
	return g
}

// spoiled reports whether a group is dead when a fragment is put that does not complete it.
func (g *asked) spoiled(f fragment) bool {
	for _, p := range g.pieces {
		if !p.MF && !f.MF {
			return true
		}
		for at := f.Offset; at < f.Offset+len(f.data); at++ {
			if p.has(at) || !p.MF && at >= p.Offset+len(p.data) {
				return true
			}
		}
		for at := p.Offset; at < p.Offset+len(p.data); at++ {
			if !f.MF && at >= f.Offset+len(f.data) {
				return true
			}
		}
	}
	return false
}

// whole returns the header and the data of a group that is complete.
func (g *asked) whole() (ip.Header, []byte, bool) {
	var h ip.Header
	end := -1
	for _, p := range g.pieces {
		if p.Offset == 0 {
			h = p.Header
			h.MF = false
		}
		if !p.MF {
			end = p.Offset + len(p.data)
		}
	}
	var d []byte
	for at := range end {
		i := slices.IndexFunc(g.pieces, func(p fragment) bool { return p.has(at) })
		if i < 0 {
			return ip.Header{}, nil, false
		}
		d = append(d, g.pieces[i].data[at-g.pieces[i].Offset])
	}
	return h, d, end >= 0
}

// list returns what Groups returns.
func (m *model) list() []frag.Group {
	var l []frag.Group
	for _, g := range m.groups {
		l = append(l, g.Group)
	}
	return l
}

// random returns a packet: most are fragments of few datagrams, some are whole, some are none.
func random(t *testing.T, next func(int) int) []byte {
	h := header()
	h.ID, h.Src, h.DF = uint16(next(4)), h.Src+uint32(next(2)), next(4) == 0
	h.TTL, h.Options = uint8(next(3)), data(next(3)*4)
	n := next(3) * 8
	switch next(12) {
	case 0, 1, 2:
		h.Offset = 8 + next(5)*8
		n = next(10)
	case 3:
	default:
		h.Offset, h.MF, n = next(5)*8, true, n+8
	}
	d := data(h.Offset + n)[h.Offset:]
	if n > 0 {
		d[0] += byte(next(256))
	}
	b := append(packet(t, h, d), data(next(3))...)
	switch next(40) {
	case 0:
		b[next(20)] ^= 1 << next(8)
	case 1:
		b = b[:next(len(b))]
	}
	return b
}

// P7.2, P7.3, P7.4: what comes of each of many packets, and what the table is then.
func TestPutByDefinition(t *testing.T) {
	next := generator(5)
	results := map[api.Errno]int{}
	wholes := 0
	for range 300 {
		limit, life := 1+next(10), 1+next(30)
		a, m := table(t, limit, life), &model{limit: limit, life: life}
		for range 120 {
			now := m.now + max(0, next(8)-5)
			if next(30) == 0 {
				now = []int{m.now - 1, -1, api.MaxTick + 1, m.now + life - 1, m.now + life}[next(5)]
			}
			if next(12) == 0 {
				if got, want := a.Tick(now), m.tick(now); got != want {
					t.Fatal(now, got, want)
				}
			} else {
				b := random(t, next)
				got, e := a.Put(now, b)
				want, wantError := m.put(now, b)
				if !bytes.Equal(got, want) || (got == nil) != (want == nil) || e != wantError {
					t.Fatalf("at %d %v: %v, %d, not %v, %d", now, b, got, e, want, wantError)
				}
				results[e]++
				if len(want) > 0 && (want[6]|want[7])&0xbf == 0 {
					wholes++
				}
			}
			if a.Now() != m.now || !slices.Equal(a.Groups(), m.list()) {
				t.Fatal(a.Now(), a.Groups(), m.now, m.list())
			}
		}
	}
	if results[api.OK] < 10000 || results[frag.ErrDead] < 1000 || results[frag.ErrTime] < 100 || results[ip.ErrSum] < 100 || wholes < 1000 {
		t.Error("too few of a kind", results, wholes)
	}
}

// orders calls do with all orders of the numbers below n.
func orders(n int, do func([]int)) {
	var extend func(order []int)
	extend = func(order []int) {
		if len(order) == n {
			do(order)
		}
		for i := range n {
			if !slices.Contains(order, i) {
				extend(append(order, i))
			}
		}
	}
	extend(make([]int, 0, n))
}

// P7.5: in whatever order the pieces are put, the packet is returned after the last one, and nothing before.
func TestPutOrders(t *testing.T) {
	for _, n := range []int{9, 16, 23, 24, 27, 40, 47, 48} {
		h := withID(1)
		h.Options = data(n % 3 * 4)
		b := packet(t, h, data(n))
		l := split(t, b, 8)
		orders(len(l), func(order []int) {
			putAll(t, b, l, order)
		})
	}
}

// putAll puts all pieces of a packet in an order.
func putAll(t *testing.T, b []byte, l [][]byte, order []int) {
	t.Helper()
	a := table(t, 1, 10)
	for i, at := range order[:len(l)-1] {
		put(t, a, i, l[at], nil, api.OK)
	}
	put(t, a, len(l)-1, l[order[len(l)-1]], b, api.OK)
	has(t, a, len(l)-1)
}

// P7.5: with one piece missing nothing is returned, and with one that is there twice nothing, too, from then on.
func TestPutOthers(t *testing.T) {
	b := packet(t, withID(1), data(35))
	l := split(t, b, 8)
	orders(len(l), func(order []int) {
		a := table(t, 1, 10)
		for _, at := range order[1:] {
			put(t, a, 0, l[at], nil, api.OK)
		}
		has(t, a, 0, group(1, 0, 35-min(8, 35-8*order[0]), false))
		for twice := range order[1:] {
			a := table(t, 1, 10)
			for i, at := range order {
				want := api.OK
				if i > twice {
					want = frag.ErrDead
				}
				if i == twice+1 {
					put(t, a, 0, l[order[twice]], nil, want)
				}
				put(t, a, 0, l[at], nil, want)
			}
			has(t, a, 0, group(1, 0, 0, true))
		}
	})
}

// P7.5: pieces that are split again come together as the packet, too.
func TestPutAgain(t *testing.T) {
	b := packet(t, withID(1), data(45))
	var l [][]byte
	for i, piece := range split(t, b, 16) {
		l = append(l, split(t, piece, []int{8, 16, 8}[i])...)
	}
	if len(l) != 5 {
		t.Fatal(l)
	}
	orders(len(l), func(order []int) {
		putAll(t, b, l, order)
	})
}

// P7.5: pieces of many packets, mixed.
func TestPutMixed(t *testing.T) {
	next := generator(3)
	for range 20 {
		a := table(t, 64, 1)
		type piece struct {
			id int
			b  []byte
		}
		var packets [][]byte
		var left []int
		var l []piece
		for id := range 64 {
			b := packet(t, withID(uint16(id)), data(9+next(60)))
			pieces := split(t, b, 8)
			packets, left = append(packets, b), append(left, len(pieces))
			for _, p := range pieces {
				l = append(l, piece{id, p})
			}
		}
		for i := range l {
			j := i + next(len(l)-i)
			l[i], l[j] = l[j], l[i]
			var want []byte
			if left[l[i].id]--; left[l[i].id] == 0 {
				want = packets[l[i].id]
			}
			put(t, a, 0, l[i].b, want, api.OK)
		}
		has(t, a, 0)
	}
}

// P7.5: the longest packet in the most pieces, in three orders.
func TestPutLongest(t *testing.T) {
	b := packet(t, withID(1), data(65515))
	l := split(t, b, 8)
	n := len(l)
	for _, place := range []func(i int) int{func(i int) int { return i }, func(i int) int { return n - 1 - i }, func(i int) int { return i * 4099 % n }} {
		a := table(t, 1, 10)
		for i := range n - 1 {
			put(t, a, 0, l[place(i)], nil, api.OK)
		}
		put(t, a, 0, l[place(n-1)], b, api.OK)
		has(t, a, 0)
	}
}
