package frag_test

import (
	"bytes"
	"math"
	"slices"
	"testing"

	"baffle/api"
	"baffle/frag"
	"baffle/ip"
)

// table returns a new table.
func table(t testing.TB, limit, life int) *frag.Table {
	t.Helper()
	a, e := frag.New(limit, life)
	if a == nil || e != api.OK {
		t.Fatal("no table", limit, life, e)
	}
	return a
}

// part returns a fragment: n bytes of the datagram from a byte on.
func part(t testing.TB, id uint16, from, n int, more bool) []byte {
	t.Helper()
	h := header()
	h.ID, h.Offset, h.MF = id, from, more
	return packet(t, h, data(from + n)[from:])
}

// put puts a packet of which a certain result comes.
func put(t testing.TB, a *frag.Table, now int, b, want []byte, wantError api.Errno) {
	t.Helper()
	if got, e := a.Put(now, b); !bytes.Equal(got, want) || (got == nil) != (want == nil) || e != wantError {
		t.Errorf("at %d: %v, %d, not %v, %d", now, got, e, want, wantError)
	}
}

// has holds a table against its time and its groups.
func has(t testing.TB, a *frag.Table, now int, want ...frag.Group) {
	t.Helper()
	if a.Now() != now || !slices.Equal(a.Groups(), want) {
		t.Errorf("%d %v, not %d %v", a.Now(), a.Groups(), now, want)
	}
}

// group is a group of the fragments with an ID.
func group(id uint16, begin, bytes int, dead bool) frag.Group {
	h := header()
	return frag.Group{Src: h.Src, Dst: h.Dst, Proto: h.Proto, ID: id, Begin: begin, Bytes: bytes, Dead: dead}
}

// P7.2: limits and lives.
func TestNew(t *testing.T) {
	for _, c := range []struct {
		limit, life int
		want        api.Errno
	}{
		{1, 1, api.OK}, {64, 1, api.OK}, {1, api.MaxTimeout, api.OK}, {64, api.MaxTimeout, api.OK}, {frag.MaxGroups, 10, api.OK},
		{0, 1, api.ErrArg}, {65, 1, api.ErrArg}, {-1, 1, api.ErrArg}, {1, 0, api.ErrArg}, {1, -1, api.ErrArg}, {1, api.MaxTimeout + 1, api.ErrArg}, {0, 0, api.ErrArg},
		{math.MinInt, 1, api.ErrArg}, {math.MaxInt, 1, api.ErrArg}, {1, math.MinInt, api.ErrArg}, {1, math.MaxInt, api.ErrArg}, {1 << 32, 1, api.ErrArg}, {1, 1 << 32, api.ErrArg},
	} {
		a, e := frag.New(c.limit, c.life)
		if e != c.want || (a != nil) != (c.want == api.OK) {
			t.Error(c, a, e)
		}
		if a != nil {
			has(t, a, 0)
		}
	}
	if frag.MaxGroups != 64 {
		t.Error(frag.MaxGroups)
	}
}

// P7.2: times, and those that are none.
func TestTick(t *testing.T) {
	a := table(t, 1, 1)
	for _, c := range []struct {
		now  int
		want api.Errno
		then int
	}{
		{-1, frag.ErrTime, 0}, {math.MinInt, frag.ErrTime, 0}, {api.MaxTick + 1, frag.ErrTime, 0}, {math.MaxInt, frag.ErrTime, 0}, {0, api.OK, 0}, {0, api.OK, 0},
		{5, api.OK, 5}, {5, api.OK, 5}, {4, frag.ErrTime, 5}, {0, frag.ErrTime, 5}, {-5, frag.ErrTime, 5}, {api.MaxTick + 1, frag.ErrTime, 5}, {1 << 41, frag.ErrTime, 5},
		{api.MaxTick, api.OK, api.MaxTick}, {api.MaxTick, api.OK, api.MaxTick}, {api.MaxTick - 1, frag.ErrTime, api.MaxTick}, {api.MaxTick + 1, frag.ErrTime, api.MaxTick},
	} {
		if e := a.Tick(c.now); e != c.want || a.Now() != c.then {
			t.Error(c, e, a.Now())
		}
	}
	put(t, a, api.MaxTick, part(t, 1, 0, 8, true), nil, api.OK)
	has(t, a, api.MaxTick, group(1, api.MaxTick, 8, false))
	put(t, a, api.MaxTick, part(t, 1, 8, 3, false), packet(t, withID(1), data(11)), api.OK)
	has(t, a, api.MaxTick)
}

// withID returns a header with an ID.
func withID(id uint16) ip.Header {
	h := header()
	h.ID = id
	return h
}

// P7.2: groups live from their first fragment on, and no others are forgotten.
func TestTickForgets(t *testing.T) {
	a := table(t, 64, 10)
	put(t, a, 3, part(t, 1, 0, 8, true), nil, api.OK)
	put(t, a, 5, part(t, 2, 0, 8, true), nil, api.OK)
	put(t, a, 5, part(t, 3, 8, 16, true), nil, api.OK)
	put(t, a, 5, part(t, 2, 0, 8, true), nil, frag.ErrDead)
	put(t, a, 9, part(t, 1, 16, 8, true), nil, api.OK)
	put(t, a, 9, part(t, 2, 16, 8, true), nil, frag.ErrDead)
	has(t, a, 9, group(1, 3, 16, false), group(2, 5, 0, true), group(3, 5, 16, false))
	tick(t, a, 12)
	has(t, a, 12, group(1, 3, 16, false), group(2, 5, 0, true), group(3, 5, 16, false))
	if e := a.Tick(11); e != frag.ErrTime {
		t.Error(e)
	}
	if e := a.Tick(api.MaxTick + 1); e != frag.ErrTime {
		t.Error(e)
	}
	has(t, a, 12, group(1, 3, 16, false), group(2, 5, 0, true), group(3, 5, 16, false))
	tick(t, a, 13)
	has(t, a, 13, group(2, 5, 0, true), group(3, 5, 16, false))
	put(t, a, 14, part(t, 1, 8, 8, true), nil, api.OK)
	has(t, a, 14, group(2, 5, 0, true), group(3, 5, 16, false), group(1, 14, 8, false))
	tick(t, a, 15)
	has(t, a, 15, group(1, 14, 8, false))
	tick(t, a, 1<<39)
	has(t, a, 1<<39)
}

func tick(t testing.TB, a *frag.Table, now int) {
	t.Helper()
	if e := a.Tick(now); e != api.OK {
		t.Error(now, e)
	}
}

// P7.2: the shortest and the longest life.
func TestLives(t *testing.T) {
	for _, life := range []int{1, 2, api.MaxTimeout} {
		for _, begin := range []int{0, 1, 7, api.MaxTick - api.MaxTimeout} {
			a := table(t, 1, life)
			put(t, a, begin, part(t, 1, 0, 8, true), nil, api.OK)
			tick(t, a, begin+life-1)
			has(t, a, begin+life-1, group(1, begin, 8, false))
			tick(t, a, begin+life)
			has(t, a, begin+life)
		}
	}
}

// P7.3: the document's example.
func TestPutExample(t *testing.T) {
	b := packet(t, header(), data(20))
	l := split(t, b, 8)
	id := header().ID
	a := table(t, 64, 10)
	put(t, a, 5, l[2], nil, api.OK)
	put(t, a, 6, l[0], nil, api.OK)
	has(t, a, 6, group(id, 5, 12, false))
	put(t, a, 7, l[1], b, api.OK)
	has(t, a, 7)

	a = table(t, 64, 10)
	put(t, a, 5, l[2], nil, api.OK)
	put(t, a, 15, l[1], nil, api.OK)
	has(t, a, 15, group(id, 15, 8, false))

	a = table(t, 64, 10)
	put(t, a, 5, l[0], nil, api.OK)
	put(t, a, 6, l[0], nil, frag.ErrDead)
	put(t, a, 7, l[1], nil, frag.ErrDead)
	put(t, a, 14, l[2], nil, frag.ErrDead)
	has(t, a, 14, group(id, 5, 0, true))
	put(t, a, 15, l[0], nil, api.OK)
	put(t, a, 15, l[1], nil, api.OK)
	put(t, a, 24, l[2], b, api.OK)
	has(t, a, 24)
}

// P7.3: errors of times come before those of ip.Read, and with both nothing changes.
func TestPutErrors(t *testing.T) {
	a := table(t, 2, 10)
	put(t, a, 5, part(t, 1, 0, 8, true), nil, api.OK)
	good := part(t, 1, 8, 3, false)
	for want, b := range faulty(t, 20) {
		for _, now := range []int{4, -1, math.MinInt, api.MaxTick + 1, math.MaxInt} {
			put(t, a, now, b, nil, frag.ErrTime)
			put(t, a, now, good, nil, frag.ErrTime)
		}
		for _, now := range []int{5, 6, 15, api.MaxTick} {
			put(t, a, now, b, nil, want)
		}
		has(t, a, 5, group(1, 5, 8, false))
	}
	put(t, a, 5, nil, nil, ip.ErrShort)
	put(t, a, 14, good, packet(t, withID(1), data(11)), api.OK)
	put(t, a, 13, good, nil, frag.ErrTime)
	has(t, a, 14)
}

// P7.3: whole packets are returned as they are, with DF, and without the bytes after them; they are of no group.
func TestPutWhole(t *testing.T) {
	a := table(t, 1, 10)
	put(t, a, 2, part(t, 1, 0, 8, true), nil, api.OK)
	for i, n := range []int{0, 1, 8, 20, 65475} {
		h := withID(1)
		h.DF, h.Options = i%2 == 0, data(40*(i%2))
		b := packet(t, h, data(n))
		put(t, a, 3+i, append(slices.Clone(b), 1, 2, 3), b, api.OK)
		has(t, a, 3+i, group(1, 2, 8, false))
	}
	put(t, a, 12, packet(t, withID(1), nil), packet(t, withID(1), nil), api.OK)
	has(t, a, 12)

	h := withID(0)
	for packet(t, h, nil)[10]|packet(t, h, nil)[11] != 0 {
		h.ID++
	}
	b := packet(t, h, data(0))
	b[10], b[11] = 255, 255
	put(t, a, 12, b, b, api.OK)
}

// P7.3: a packet with MF and one with an Offset are fragments, also with DF, with no data, and with bytes after them.
func TestPutFragments(t *testing.T) {
	for _, c := range []struct {
		from, n int
		more    bool
	}{{0, 8, true}, {8, 8, true}, {8, 8, false}, {8, 0, false}, {16, 3, false}, {65512, 3, false}, {65512, 0, false}, {65504, 8, true}, {0, 65512, true}} {
		h := withID(1)
		h.DF, h.Offset, h.MF = true, c.from, c.more
		a := table(t, 1, 10)
		put(t, a, 0, append(packet(t, h, data(c.n)), 1, 2, 3), nil, api.OK)
		has(t, a, 0, group(1, 0, c.n, false))
	}
}

// P7.3: groups are of the same Src, Dst, Proto and ID, and of nothing else.
func TestPutKeys(t *testing.T) {
	first := withID(1)
	first.MF = true
	changes := []func(h *ip.Header){
		func(h *ip.Header) { h.Src ^= 1 }, func(h *ip.Header) { h.Src ^= 1 << 31 },
		func(h *ip.Header) { h.Dst ^= 1 }, func(h *ip.Header) { h.Dst ^= 1 << 31 },
		func(h *ip.Header) { h.Proto ^= 1 }, func(h *ip.Header) { h.Proto ^= 128 },
		func(h *ip.Header) { h.ID ^= 1 }, func(h *ip.Header) { h.ID ^= 1 << 15 },
		func(h *ip.Header) { h.Src, h.Dst = h.Dst, h.Src },
	}
	a := table(t, 64, 10)
	for range 2 {
		put(t, a, 0, packet(t, first, data(8)), nil, api.OK)
		want := []frag.Group{group(1, 0, 8, false)}
		for _, change := range changes {
			h := first
			change(&h)
			put(t, a, 0, packet(t, h, data(8)), nil, api.OK)
			want = append(want, frag.Group{Src: h.Src, Dst: h.Dst, Proto: h.Proto, ID: h.ID, Bytes: 8})
		}
		has(t, a, 0, want...)
		for i, change := range append(changes, func(*ip.Header) {}) {
			last, whole := first, first
			change(&last)
			change(&whole)
			last.Offset, last.MF, whole.MF = 8, false, false
			put(t, a, 0, packet(t, last, data(3)), packet(t, whole, append(data(8), data(3)...)), api.OK)
			if len(a.Groups()) != len(changes)-i {
				t.Error(i, a.Groups())
			}
		}
	}
	other := first
	other.TOS, other.TTL, other.DF, other.Options, other.Offset, other.MF = 1, 1, true, data(8), 8, false
	put(t, a, 0, packet(t, first, data(8)), nil, api.OK)
	whole := first
	whole.MF = false
	put(t, a, 0, packet(t, other, data(3)), packet(t, whole, append(data(8), data(3)...)), api.OK)
}

// P7.3: the whole has the header of the first piece, in whatever order they are put.
func TestPutHeader(t *testing.T) {
	first, last, whole := withID(1), withID(1), withID(1)
	first.TOS, first.TTL, first.DF, first.Options, first.MF = 1, 2, true, data(12), true
	last.TOS, last.TTL, last.Options, last.Offset = 3, 4, data(40), 8
	whole.TOS, whole.TTL, whole.DF, whole.Options = 1, 2, true, data(12)
	pieces := [][]byte{packet(t, first, data(8)), packet(t, last, []byte{7, 8, 9})}
	want := packet(t, whole, append(data(8), 7, 8, 9))
	for i := range pieces {
		a := table(t, 1, 10)
		put(t, a, 0, pieces[i], nil, api.OK)
		put(t, a, 0, pieces[1-i], want, api.OK)
		has(t, a, 0)
	}
}

// P7.3: if there are limit groups the one that began first is forgotten, but not for a fragment of one of them, for a whole packet, or for bytes that are none.
func TestPutLimit(t *testing.T) {
	for _, limit := range []int{1, 2, 3, 64} {
		a := table(t, limit, 1000)
		var want []frag.Group
		for id := range limit {
			put(t, a, id/2, part(t, uint16(id), 0, 8, true), nil, api.OK)
			want = append(want, group(uint16(id), id/2, 8, false))
		}
		put(t, a, 50, part(t, 0, 16, 8, true), nil, api.OK)
		put(t, a, 50, packet(t, withID(100), data(9)), packet(t, withID(100), data(9)), api.OK)
		put(t, a, 50, part(t, 100, 0, 8, true)[:21], nil, ip.ErrTotal)
		put(t, a, 49, part(t, 100, 0, 8, true), nil, frag.ErrTime)
		want[0].Bytes = 16
		has(t, a, 50, want...)
		put(t, a, 50, part(t, 0, 0, 8, true), nil, frag.ErrDead)
		want[0].Bytes, want[0].Dead = 0, true
		has(t, a, 50, want...)
		for i := range limit + 2 {
			id := uint16(100 + i)
			put(t, a, 51+i, part(t, id, 0, 8, true), nil, api.OK)
			want = append(want[1:], group(id, 51+i, 8, false))
			has(t, a, 51+i, want...)
		}
		put(t, a, 200, part(t, 100, 0, 8, true), nil, api.OK) // forgotten before
		want = append(want[1:], group(100, 200, 8, false))
		has(t, a, 200, want...)
	}
}

// P7.3: a group that is over makes room before another one begins, and one that is complete does, too.
func TestPutRoom(t *testing.T) {
	a := table(t, 2, 10)
	put(t, a, 0, part(t, 1, 0, 8, true), nil, api.OK)
	put(t, a, 5, part(t, 2, 0, 8, true), nil, api.OK)
	put(t, a, 10, part(t, 3, 0, 8, true), nil, api.OK)
	has(t, a, 10, group(2, 5, 8, false), group(3, 10, 8, false))
	put(t, a, 11, part(t, 2, 8, 0, false), packet(t, withID(2), data(8)), api.OK)
	put(t, a, 11, part(t, 4, 0, 8, true), nil, api.OK)
	has(t, a, 11, group(3, 10, 8, false), group(4, 11, 8, false))
	put(t, a, 12, part(t, 4, 8, 3, false), packet(t, withID(4), data(11)), api.OK)
	has(t, a, 12, group(3, 10, 8, false))
	put(t, a, 13, part(t, 4, 8, 3, false), nil, api.OK) // of a new group: what was complete is forgotten
	has(t, a, 13, group(3, 10, 8, false), group(4, 13, 3, false))
}

// span is where a fragment is.
type span struct {
	from, n int
	more    bool
}

// P7.3: fragments that spoil their group, and others that are near it. Only the last one of a list does, if any does.
func TestPutDead(t *testing.T) {
	for _, c := range []struct {
		l    []span
		dead bool
	}{
		{[]span{{0, 8, true}, {0, 8, true}}, true}, {[]span{{0, 8, true}, {8, 8, true}}, false}, {[]span{{8, 8, true}, {0, 8, true}}, false}, {[]span{{0, 16, true}, {8, 8, true}}, true}, {[]span{{8, 8, true}, {0, 16, true}}, true},
		{[]span{{8, 8, true}, {0, 24, true}}, true}, {[]span{{0, 24, true}, {8, 8, true}}, true}, {[]span{{0, 8, true}, {16, 8, true}, {8, 16, true}}, true}, {[]span{{0, 8, true}, {16, 8, true}, {8, 8, true}}, false}, {[]span{{0, 8, true}, {16, 8, true}, {0, 16, true}}, true},
		{[]span{{0, 8, true}, {8, 8, true}, {16, 8, true}, {24, 8, true}, {0, 8, true}}, true}, {[]span{{0, 8, true}, {8, 8, true}, {16, 8, true}, {24, 8, true}, {8, 8, true}}, true}, {[]span{{24, 8, true}, {16, 8, true}, {8, 8, true}, {24, 16, true}}, true},
		{[]span{{0, 8, true}, {8, 8, true}, {16, 8, true}, {32, 8, true}, {0, 56, true}}, true}, {[]span{{8, 8, true}, {24, 8, true}, {40, 8, true}, {16, 8, true}}, false}, {[]span{{8, 8, true}, {24, 8, true}, {40, 8, true}, {16, 16, true}}, true},
		// Two last ones, with and without bytes, at the same end and at others.
		{[]span{{16, 3, false}, {16, 3, false}}, true}, {[]span{{16, 0, false}, {16, 0, false}}, true}, {[]span{{16, 8, false}, {24, 0, false}}, true}, {[]span{{24, 0, false}, {16, 8, false}}, true}, {[]span{{16, 3, false}, {24, 3, false}}, true}, {[]span{{24, 3, false}, {16, 3, false}}, true}, {[]span{{16, 0, false}, {24, 0, false}}, true}, {[]span{{24, 0, false}, {16, 0, false}}, true}, {[]span{{24, 0, false}, {8, 8, false}}, true}, {[]span{{8, 8, false}, {24, 0, false}}, true},
		// A last one, and earlier bytes after it.
		{[]span{{16, 8, true}, {8, 8, false}}, true}, {[]span{{16, 8, true}, {8, 3, false}}, true}, {[]span{{16, 8, true}, {8, 0, false}}, true}, {[]span{{16, 8, true}, {16, 0, false}}, true}, {[]span{{16, 8, true}, {24, 0, false}}, false}, {[]span{{16, 8, true}, {24, 1, false}}, false}, {[]span{{16, 8, true}, {32, 0, false}}, false}, {[]span{{16, 8, true}, {0, 8, true}, {8, 0, false}}, true}, {[]span{{0, 8, true}, {16, 8, true}, {8, 8, false}}, true}, {[]span{{8, 16, true}, {16, 0, false}}, true}, {[]span{{8, 16, true}, {16, 1, false}}, true}, {[]span{{8, 16, true}, {16, 16, false}}, true},
		// Bytes after an earlier last one.
		{[]span{{8, 8, false}, {16, 8, true}}, true}, {[]span{{8, 3, false}, {16, 8, true}}, true}, {[]span{{8, 0, false}, {8, 8, true}}, true}, {[]span{{8, 0, false}, {16, 8, true}}, true}, {[]span{{16, 0, false}, {8, 16, true}}, true}, {[]span{{16, 0, false}, {0, 24, true}}, true}, {[]span{{16, 0, false}, {8, 8, true}}, false}, {[]span{{16, 3, false}, {8, 8, true}}, false}, {[]span{{16, 3, false}, {16, 8, true}}, true}, {[]span{{16, 3, false}, {24, 8, true}}, true}, {[]span{{16, 3, false}, {8, 16, true}}, true}, {[]span{{16, 3, false}, {32, 8, true}}, true},
	} {
		a := table(t, 1, 10)
		bytes := 0
		for i, s := range c.l {
			want := api.OK
			bytes += s.n
			if c.dead && i == len(c.l)-1 {
				want, bytes = frag.ErrDead, 0
			}
			put(t, a, i, part(t, 1, s.from, s.n, s.more), nil, want)
		}
		has(t, a, len(c.l)-1, group(1, 0, bytes, c.dead))
		if !c.dead || t.Failed() {
			continue
		}
		// Nothing is left of the parts: what would complete a group does not.
		put(t, a, 9, part(t, 1, 0, 64, true), nil, frag.ErrDead)
		put(t, a, 9, part(t, 1, 64, 0, false), nil, frag.ErrDead)
		has(t, a, 9, group(1, 0, 0, true))
		put(t, a, 10, part(t, 1, 0, 64, true), nil, api.OK)
		put(t, a, 10, part(t, 1, 64, 0, false), packet(t, withID(1), data(64)), api.OK)
	}
}

// P7.3: a whole for whose data its header is not right, in whatever order its fragments are put.
func TestPutNotRight(t *testing.T) {
	for options := 0; options <= 40; options += 4 {
		for extra := -1; extra < 2; extra++ {
			first, middle, last := withID(1), withID(1), withID(1)
			first.Options, first.MF = data(options), true
			middle.Offset, middle.MF = 65464, true
			last.Offset = 65472
			end := 65515 - options + extra
			if end > 65515 {
				continue
			}
			d := data(end)
			pieces := [][]byte{packet(t, first, d[:65464]), packet(t, middle, d[65464:65472]), packet(t, last, d[65472:])}
			for _, order := range [][]int{{0, 1, 2}, {0, 2, 1}, {1, 0, 2}, {1, 2, 0}, {2, 0, 1}, {2, 1, 0}} {
				a := table(t, 1, 10)
				put(t, a, 0, pieces[order[0]], nil, api.OK)
				put(t, a, 0, pieces[order[1]], nil, api.OK)
				if extra > 0 {
					put(t, a, 0, pieces[order[2]], nil, frag.ErrDead)
					has(t, a, 0, group(1, 0, 0, true))
					continue
				}
				first.MF = false
				put(t, a, 0, pieces[order[2]], packet(t, first, d), api.OK)
				has(t, a, 0)
			}
		}
	}
}

// P7.3, P7.4: what is no table.
func TestNoTable(t *testing.T) {
	a := table(t, 1, 10)
	put(t, a, 5, part(t, 1, 0, 8, true), nil, api.OK)
	copied := *a
	for _, none := range []*frag.Table{nil, {}, new(frag.Table), &copied} {
		for _, now := range []int{0, 5, 20, -1, api.MaxTick + 1} {
			put(t, none, now, part(t, 1, 8, 8, false), nil, api.ErrNil)
			put(t, none, now, packet(t, withID(1), nil), nil, api.ErrNil)
			put(t, none, now, nil, nil, api.ErrNil)
			if e := none.Tick(now); e != api.ErrNil {
				t.Error(now, e)
			}
		}
		has(t, none, 0)
	}
	has(t, a, 5, group(1, 5, 8, false))
}
