package frag

import (
	"bytes"
	"cmp"
	"slices"

	"baffle/api"
	"baffle/ip"
)

// group is the fragments with the same key. Of one that is dead nothing is left but when it began.
type group struct {
	begin int
	dead  bool
	head  ip.Header // of the whole, as soon as there is the fragment with the Offset 0
	parts []part    // in the order of their places; no two of them have a byte in common
	bytes int       // how many there are in the parts
	end   int       // of the datagram; 0 before there is a last fragment, none of which ends it there
}

// part is some bytes of a datagram, and where they begin.
type part struct {
	from int
	data []byte
}

// to returns where a part ends.
func (p part) to() int { return p.from + len(p.data) }

// meets reports whether two parts have a byte in common.
func (p part) meets(q part) bool { return max(p.from, q.from) < min(p.to(), q.to()) }

// fragment is a packet that is not whole.
type fragment struct {
	header ip.Header
	part
}

// last reports whether a fragment ends the datagram.
func (f fragment) last() bool { return !f.header.MF }

// add adds a fragment, and returns the whole if it completes the group.
func (g *group) add(f fragment) ([]byte, api.Errno) {
	if g.dead || g.spoiled(f) {
		*g = group{begin: g.begin, dead: true}
		return nil, ErrDead
	}
	g.take(f)
	// Before there is an end there are bytes: only the last fragment may have none.
	if g.bytes != g.end {
		return nil, api.OK
	}
	return ip.Write(g.head, g.whole())
}

// spoiled reports whether the group is dead with a fragment.
func (g *group) spoiled(f fragment) bool {
	for _, found := range g.faults(f) {
		if found() {
			return true
		}
	}
	return false
}

// faults returns what finds each fault of a fragment of a group that is not dead.
func (g *group) faults(f fragment) [4]func() bool {
	return [...]func() bool{
		func() bool { return g.meets(f.part) },
		func() bool { return f.last() && (g.end > 0 || g.reach() > f.to()) },
		func() bool { return g.end > 0 && f.to() > g.end },
		func() bool {
			head, end := g.known(f)
			return g.bytes+len(f.data) == end && !ip.Right(head, end)
		},
	}
}

// meets reports whether a part has a byte in common with one of the group: only those next to its place may have.
func (g *group) meets(p part) bool {
	at := g.place(p)
	return at > 0 && g.parts[at-1].meets(p) || at < len(g.parts) && g.parts[at].meets(p)
}

// place returns how many parts begin before another one.
func (g *group) place(p part) int {
	at, _ := slices.BinarySearchFunc(g.parts, p, func(a, b part) int { return cmp.Compare(a.from, b.from) })
	return at
}

// reach returns where the last one of the parts ends.
func (g *group) reach() int {
	if len(g.parts) == 0 {
		return 0
	}
	return g.parts[len(g.parts)-1].to()
}

// known returns the header of the whole, and where the datagram ends, as far as they are known with a fragment.
func (g *group) known(f fragment) (ip.Header, int) {
	head, end := g.head, g.end
	if f.from == 0 {
		head = f.header
		head.MF = false
	}
	if f.last() {
		end = f.to()
	}
	return head, end
}

// take adds a fragment that has no fault.
func (g *group) take(f fragment) {
	g.head, g.end = g.known(f)
	g.bytes += len(f.data)
	g.parts = slices.Insert(g.parts, g.place(f.part), part{f.from, bytes.Clone(f.data)})
}

// whole returns the data of a group that is complete.
func (g *group) whole() []byte {
	data := make([]byte, 0, g.end)
	for piece := range g.pieces {
		data = append(data, piece...)
	}
	return data
}

// pieces yields the bytes of all parts, in the order of their places.
func (g *group) pieces(yield func([]byte) bool) {
	for _, p := range g.parts {
		if !yield(p.data) {
			return
		}
	}
}
