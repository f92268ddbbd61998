package ip_test

import (
	"bytes"
	"slices"
	"testing"

	"baffle/api"
	"baffle/ip"
)

// example is the packet of the document's examples.
func example() []byte {
	return []byte{69, 0, 0, 22, 0, 1, 0, 0, 64, 17, 102, 212, 10, 0, 0, 1, 10, 0, 0, 2, 7, 8}
}

// full is a packet with something in each place: DF, eight bytes of options and five of data.
func full() []byte {
	return sealed([]byte{
		71, 0xb8, 0, 33, 0x12, 0x34, 0x40, 3, 200, 6, 0, 0, 0xc0, 0xa8, 0x01, 0xfe, 0x08, 0x09, 0x0a, 0x0b,
		7, 8, 9, 10, 11, 12, 13, 0, 1, 2, 3, 4, 5,
	})
}

// sum is the sum of bytes, carry by carry.
func sum(b []byte) int {
	s := 0
	for i, c := range b {
		s += int(c) << (8 - i%2*8)
		for s > 65535 {
			s -= 65535
		}
	}
	return s
}

// sealed returns bytes with the checksum that the header should have, as far as there is a header.
func sealed(b []byte) []byte {
	b = slices.Clone(b)
	size := int(b[0]%16) * 4
	if size < 20 || size > len(b) {
		return b
	}
	b[10], b[11] = 0, 0
	check := 65535 - sum(b[:size])
	b[10], b[11] = byte(check>>8), byte(check)
	return b
}

// changed returns the full packet with some of its bytes replaced, and a checksum that is right.
func changed(at int, put ...byte) []byte {
	b := full()
	copy(b[at:], put)
	return sealed(b)
}

// same reports whether headers are the same.
func same(g, h ip.Header) bool {
	return g.TOS == h.TOS && g.ID == h.ID && g.DF == h.DF && g.MF == h.MF && g.Offset == h.Offset && g.TTL == h.TTL && g.Proto == h.Proto && g.Src == h.Src && g.Dst == h.Dst && bytes.Equal(g.Options, h.Options)
}

// readAs reports whether bytes are read as a header, with data at its places, and an error.
func readAs(b []byte, h ip.Header, from, to int, e api.Errno) bool {
	gotH, gotFrom, gotTo, gotE := ip.Read(b)
	return same(gotH, h) && gotFrom == from && gotTo == to && gotE == e
}

// P5.2: each field is where it belongs.
func TestRead(t *testing.T) {
	whole := ip.Header{TOS: 0xb8, ID: 0x1234, DF: true, Offset: 24, TTL: 200, Proto: 6, Src: 0xc0a801fe, Dst: 0x08090a0b, Options: []byte{7, 8, 9, 10, 11, 12, 13, 0}}
	with := func(change func(h *ip.Header)) ip.Header {
		h := whole
		change(&h)
		return h
	}
	for i, c := range []struct {
		b        []byte
		h        ip.Header
		from, to int
	}{
		{example(), ip.Header{ID: 1, TTL: 64, Proto: 17, Src: 0x0a000001, Dst: 0x0a000002}, 20, 22},
		{full(), whole, 28, 33},
		{changed(3, 28), whole, 28, 28},
		{changed(3, 29), whole, 28, 29},
		{changed(0, 69), with(func(h *ip.Header) { h.Options = nil }), 20, 33},
		{changed(0, 70), with(func(h *ip.Header) { h.Options = h.Options[:4] }), 24, 33},
		{changed(0, 72), with(func(h *ip.Header) { h.Options = []byte{7, 8, 9, 10, 11, 12, 13, 0, 1, 2, 3, 4} }), 32, 33},
		{changed(1, 0), with(func(h *ip.Header) { h.TOS = 0 }), 28, 33},
		{changed(4, 0xff, 0xfe), with(func(h *ip.Header) { h.ID = 0xfffe }), 28, 33},
		{changed(6, 0, 3), with(func(h *ip.Header) { h.DF = false }), 28, 33},
		{changed(6, 0, 0), with(func(h *ip.Header) { h.DF, h.Offset = false, 0 }), 28, 33},
		{changed(6, 0x1f, 0xfc), with(func(h *ip.Header) { h.DF, h.Offset = false, 65504 }), 28, 33},
		{changed(3, 31, 0x12, 0x34, 0x1f, 0xfd), with(func(h *ip.Header) { h.DF, h.Offset = false, 65512 }), 28, 31},
		{changed(6, 0x10, 1), with(func(h *ip.Header) { h.DF, h.Offset = false, 32776 }), 28, 33},
		{sealed(append(changed(3, 36, 0x12, 0x34, 0x60, 3), 6, 7, 8)), with(func(h *ip.Header) { h.MF = true }), 28, 36},
		{sealed(append(changed(3, 36, 0x12, 0x34, 0x20, 0), 6, 7, 8)), with(func(h *ip.Header) { h.DF, h.MF, h.Offset = false, true, 0 }), 28, 36},
		{changed(8, 0), with(func(h *ip.Header) { h.TTL = 0 }), 28, 33},
		{changed(8, 255, 255), with(func(h *ip.Header) { h.TTL, h.Proto = 255, 255 }), 28, 33},
		{changed(12, 255, 255, 255, 255, 0, 0, 0, 0), with(func(h *ip.Header) { h.Src, h.Dst = 0xffffffff, 0 }), 28, 33},
	} {
		if !readAs(c.b, c.h, c.from, c.to, api.OK) {
			h, from, to, e := ip.Read(c.b)
			t.Errorf("%d: %+v, %d, %d, %d", i, h, from, to, e)
		}
	}
}

// P5.2: bytes after the packet do not matter, whatever they are.
func TestReadBytesAfter(t *testing.T) {
	for _, b := range [][]byte{example(), full()} {
		h, from, to, e := ip.Read(b)
		if e != api.OK || to != len(b) {
			t.Fatal(to, e)
		}
		for _, more := range [][]byte{{0}, {255}, {1, 2, 3}, bytes.Repeat([]byte{7}, 100), make([]byte, 70000)} {
			if !readAs(slices.Concat(b, more), h, from, to, api.OK) {
				t.Errorf("% x with %d bytes after it", b, len(more))
			}
		}
	}
}

// P5.2: the longest packets, and the longest headers.
func TestReadLong(t *testing.T) {
	b := make([]byte, 65535)
	copy(b, []byte{69, 0, 255, 255})
	if b = sealed(b); !readAs(b, ip.Header{}, 20, 65535, api.OK) {
		t.Error("20")
	}
	b[0] = 79
	if b = sealed(b); !readAs(b, ip.Header{Options: make([]byte, 40)}, 60, 65535, api.OK) {
		t.Error("60")
	}
	if !readAs(b[:65534], ip.Header{}, 0, 0, ip.ErrTotal) {
		t.Error("65534")
	}
	b[3] = 60
	b[2] = 0
	if b = sealed(b); !readAs(b[:60], ip.Header{Options: make([]byte, 40)}, 60, 60, api.OK) || !readAs(b[:59], ip.Header{}, 0, 0, ip.ErrHeader) {
		t.Error("only a header")
	}
}

// P5.2: each error at its limits.
func TestReadFails(t *testing.T) {
	wrongSum := example()
	wrongSum[11] = 211
	for i, c := range []struct {
		b    []byte
		want api.Errno
	}{
		{nil, ip.ErrShort}, {[]byte{}, ip.ErrShort}, {[]byte{69}, ip.ErrShort}, {example()[:19], ip.ErrShort}, {make([]byte, 19), ip.ErrShort}, {make([]byte, 20), ip.ErrVersion},
		{changed(0, 0x07), ip.ErrVersion}, {changed(0, 0x37), ip.ErrVersion}, {changed(0, 0x57), ip.ErrVersion}, {changed(0, 0x67), ip.ErrVersion}, {changed(0, 0xc7), ip.ErrVersion}, {changed(0, 0xf7), ip.ErrVersion},
		{changed(0, 0x40), ip.ErrHeader}, {changed(0, 0x41), ip.ErrHeader}, {changed(0, 0x44), ip.ErrHeader}, {changed(0, 0x49), ip.ErrHeader}, {changed(0, 0x4f), ip.ErrHeader}, {full()[:27], ip.ErrHeader}, {full()[:20], ip.ErrHeader},
		{changed(2, 0, 0), ip.ErrTotal}, {changed(2, 0, 27), ip.ErrTotal}, {changed(2, 0, 20), ip.ErrTotal}, {changed(2, 0, 34), ip.ErrTotal}, {changed(2, 1, 33), ip.ErrTotal}, {changed(2, 255, 255), ip.ErrTotal}, {full()[:32], ip.ErrTotal}, {full()[:28], ip.ErrTotal}, {example()[:21], ip.ErrTotal},
		{wrongSum, ip.ErrSum}, {slices.Concat([]byte{69, 0, 0, 20}, make([]byte, 16)), ip.ErrSum},
		{changed(6, 0x80, 0), ip.ErrFlags}, {changed(6, 0xc0, 3), ip.ErrFlags}, {changed(6, 0xff, 0xff), ip.ErrFlags},
		{changed(6, 0x20, 0), ip.ErrOffset}, {changed(6, 0x60, 3), ip.ErrOffset}, {changed(6, 0x1f, 0xfd), ip.ErrOffset}, {changed(6, 0x1f, 0xfe), ip.ErrOffset}, {changed(6, 0x1f, 0xff), ip.ErrOffset}, {changed(2, 0, 28, 0, 0, 0x20, 0), ip.ErrOffset}, {changed(2, 0, 28, 0, 0, 0x1f, 0xff), ip.ErrOffset}, {changed(2, 0, 29, 0, 0, 0x20, 0), ip.ErrOffset},
	} {
		if !readAs(c.b, ip.Header{}, 0, 0, c.want) {
			h, from, to, e := ip.Read(c.b)
			t.Errorf("%d: % x: %+v, %d, %d, %d; want %d", i, c.b, h, from, to, e, c.want)
		}
	}
}

// P5.2: if bytes have several errors, the first one is returned.
func TestReadOrder(t *testing.T) {
	errors := []api.Errno{ip.ErrVersion, ip.ErrHeader, ip.ErrTotal, ip.ErrFlags, ip.ErrOffset, ip.ErrSum}
	for mask := range 1 << len(errors) {
		want := api.OK
		for i, e := range errors {
			if mask>>i&1 == 1 && (want == api.OK || e < want) {
				want = e
			}
		}
		b := full()
		b[0] ^= byte(mask&1) << 5
		b[0] |= byte(mask>>1&1) << 3
		b[3] -= byte(mask>>2&1) << 3
		b[6] |= byte(mask>>3&1) << 7
		b[6] |= byte(mask>>4&1) << 5
		b = sealed(b)
		b[11] += byte(mask >> 5 & 1)
		if !readAs(b, ip.Header{}, 0, 0, want) && want != api.OK {
			_, _, _, e := ip.Read(b)
			t.Errorf("%06b: %d, want %d", mask, e, want)
		}
		if !readAs(b[:19], ip.Header{}, 0, 0, ip.ErrShort) {
			t.Errorf("%06b, too short", mask)
		}
	}
}

// fault is the definition of the errors, one after the other.
func fault(b []byte) api.Errno {
	if len(b) < 20 {
		return ip.ErrShort
	}
	size, length, place := int(b[0]%16)*4, int(b[2])*256+int(b[3]), int(b[6])*256+int(b[7])
	switch {
	case b[0]/16 != 4:
		return ip.ErrVersion
	case size < 20 || size > len(b):
		return ip.ErrHeader
	case length < size || length > len(b):
		return ip.ErrTotal
	case sum(b[:size]) != 65535:
		return ip.ErrSum
	case place >= 32768:
		return ip.ErrFlags
	case !rightFor(ip.Header{MF: place&8192 != 0, Offset: place % 8192 * 8, Options: b[20:size]}, length-size):
		return ip.ErrOffset
	}
	return api.OK
}

// P5.2, P5.4: any bytes are read, hop and turn, or have their error, and nothing more than it.
func TestAnyBytes(t *testing.T) {
	check := func(b []byte) {
		t.Helper()
		want := fault(b)
		h, from, to, e := ip.Read(b)
		if e != want || e != api.OK && !readAs(b, ip.Header{}, 0, 0, want) {
			t.Fatalf("% x: %+v, %d, %d, %d; want %d", b, h, from, to, e, want)
		}
		turned, e := ip.Turn(b)
		if e != want || e != api.OK && len(turned) != 0 {
			t.Fatalf("% x turned: % x, %d; want %d", b, turned, e, want)
		}
		if want == api.OK && h.TTL < 2 {
			want = ip.ErrTTL
		}
		hopped, e := ip.Hop(b)
		if e != want || e != api.OK && len(hopped) != 0 {
			t.Fatalf("% x hops: % x, %d; want %d", b, hopped, e, want)
		}
	}
	seed := uint32(1)
	next := func() byte {
		seed = seed*1664525 + 1013904223
		return byte(seed >> 24)
	}
	for i := range 40000 {
		b := make([]byte, i%100)
		for j := range b {
			b[j] = next()
		}
		check(b)
		if len(b) > 7 { // what looks like a packet
			b[0], b[2], b[3] = 64+b[0]%16, 0, b[3]%128
			check(b)
			check(sealed(b))
			b[6], b[7] = b[6]%64, b[7]/32
			check(sealed(b))
		}
	}
	for _, b := range [][]byte{example(), full()} {
		for at := range b {
			for c := range 256 {
				other := slices.Clone(b)
				other[at] = byte(c)
				check(other)
				check(sealed(other))
				check(other[:at])
			}
		}
	}
}
