package ip_test

import (
	"bytes"
	"math"
	"slices"
	"testing"

	"baffle/api"
	"baffle/csum"
	"baffle/ip"
)

// written returns the packet with a header and data.
func written(t *testing.T, h ip.Header, data []byte) []byte {
	t.Helper()
	b, e := ip.Write(h, data)
	if e != api.OK {
		t.Fatalf("%+v, %d bytes: %d", h, len(data), e)
	}
	return b
}

// P5.3: each field comes where it belongs, and the checksum is right.
func TestWrite(t *testing.T) {
	first := ip.Header{ID: 1, TTL: 64, Proto: 17, Src: 0x0a000001, Dst: 0x0a000002}
	whole := ip.Header{TOS: 0xb8, ID: 0x1234, DF: true, Offset: 24, TTL: 200, Proto: 6, Src: 0xc0a801fe, Dst: 0x08090a0b, Options: []byte{7, 8, 9, 10, 11, 12, 13, 0}}
	more := whole
	more.DF, more.MF, more.Offset = false, true, 40000
	last := whole
	last.Offset = 65512
	for i, c := range []struct {
		h    ip.Header
		data []byte
		want []byte
	}{
		{first, []byte{7, 8}, example()},
		{first, nil, []byte{69, 0, 0, 20, 0, 1, 0, 0, 64, 17, 102, 214, 10, 0, 0, 1, 10, 0, 0, 2}},
		{whole, []byte{1, 2, 3, 4, 5}, full()},
		{more, []byte{1, 2, 3, 4, 5, 6, 7, 8}, sealed(append(changed(3, 36, 0x12, 0x34, 0x33, 0x88), 6, 7, 8))},
		{last, []byte{1, 2, 3}, changed(3, 31, 0x12, 0x34, 0x5f, 0xfd)[:31]},
		{ip.Header{}, nil, sealed([]byte{69, 0, 0, 20, 19: 0})},
		{ip.Header{Options: []byte{}}, []byte{}, sealed([]byte{69, 0, 0, 20, 19: 0})},
		{ip.Header{Options: make([]byte, 40)}, []byte{9}, sealed([]byte{79, 0, 0, 61, 60: 9})},
		{ip.Header{}, make([]byte, 65515), sealed([]byte{69, 0, 255, 255, 65534: 0})},
		{ip.Header{Options: make([]byte, 40)}, make([]byte, 65475), sealed([]byte{79, 0, 255, 255, 65534: 0})},
	} {
		if b, e := ip.Write(c.h, c.data); !bytes.Equal(b, c.want) || e != api.OK {
			t.Errorf("%d: % x, %d; want % x", i, b[:min(len(b), 80)], e, c.want[:min(len(c.want), 80)])
		}
	}
}

// P5.3: no packet has a header that is not right for its data.
func TestWriteFails(t *testing.T) {
	for i, c := range []struct {
		h ip.Header
		n int
	}{
		{ip.Header{MF: true}, 2}, {ip.Header{MF: true}, 0}, {ip.Header{Offset: 65528}, 2}, {ip.Header{Offset: 65520}, 0}, {ip.Header{Offset: 65512}, 4}, {ip.Header{Offset: 3}, 2}, {ip.Header{Offset: -8}, 8}, {ip.Header{Offset: math.MinInt}, 8}, {ip.Header{Offset: math.MaxInt - 7}, 8},
		{ip.Header{Options: make([]byte, 3)}, 2}, {ip.Header{Options: make([]byte, 44)}, 2}, {ip.Header{Options: make([]byte, 70000)}, 2}, {ip.Header{}, 65516}, {ip.Header{}, 1 << 20}, {ip.Header{Options: make([]byte, 40)}, 65476},
	} {
		if b, e := ip.Write(c.h, make([]byte, c.n)); len(b) != 0 || e != api.ErrArg {
			t.Errorf("%d: %d bytes, %d", i, len(b), e)
		}
	}
}

// headers are right for as many bytes of data as there are; all is in them but what is not right.
func headers() ([]ip.Header, [][]byte) {
	var headers []ip.Header
	var data [][]byte
	n := uint32(7)
	next := func() uint32 {
		n = n*1664525 + 1013904223
		return n >> 8
	}
	for i := range 3000 {
		h := ip.Header{TOS: uint8(next()), ID: uint16(next()), DF: next()>>9%2 == 1, MF: next()>>9%3 == 1, TTL: uint8(next()), Proto: uint8(next()), Src: next() * 257, Dst: next() * 263}
		h.Offset = int(next()>>3%8180) * 8
		h.Options = make([]byte, i%11*4)
		for j := range h.Options {
			h.Options[j] = byte(next())
		}
		size := int(next() >> 5 % 70)
		if h.MF {
			size = size/8*8 + 8
		}
		if h.Offset+size > 65515 {
			h.Offset = 0
		}
		b := make([]byte, size)
		for j := range b {
			b[j] = byte(next())
		}
		headers, data = append(headers, h), append(data, b)
	}
	return headers, data
}

// P5.3, P5.5: what is written is read as it was.
func TestWrittenIsRead(t *testing.T) {
	l, data := headers()
	for i, h := range l {
		b := written(t, h, data[i])
		from := 20 + len(h.Options)
		if !readAs(b, h, from, len(b), api.OK) || !bytes.Equal(b[from:], data[i]) || !csum.Right(b[:from]) {
			t.Fatalf("%+v: % x", h, b)
		}
		if !readAs(slices.Concat(b, []byte{1, 2, 3}), h, from, len(b), api.OK) {
			t.Fatalf("%+v: % x with more", h, b)
		}
	}
}

// P5.5: what is read and written again is the same.
func TestReadIsWritten(t *testing.T) {
	for _, b := range [][]byte{example(), full(), changed(6, 0, 0), changed(8, 0), changed(0, 69), changed(0, 72), changed(12, 0, 0, 0, 0)} {
		h, from, to, e := ip.Read(b)
		if again := written(t, h, b[from:to]); !bytes.Equal(again, b) || e != api.OK {
			t.Errorf("% x: % x, %d", b, again, e)
		}
	}
}

// allBits is a packet whose header has the sum 65535 without its checksum, so that 0 and 65535 both are right.
func allBits(check byte) []byte {
	b := []byte{69, 0, 0, 22, 0, 0, 0, 0, 64, 17, 0, 0, 10, 0, 0, 1, 10, 0, 0, 2, 7, 8}
	missing := 65535 - sum(b[:20])
	b[4], b[5] = byte(missing>>8), byte(missing)
	b[10], b[11] = check, check
	return b
}

// P5.3, P5.5: a checksum of 65535 is read, and becomes 0 if it is written again.
func TestBothChecksums(t *testing.T) {
	h, from, to, e := ip.Read(allBits(255))
	if from != 20 || to != 22 || e != api.OK || !readAs(allBits(0), h, 20, 22, api.OK) {
		t.Fatal(from, to, e)
	}
	if b := written(t, h, []byte{7, 8}); !bytes.Equal(b, allBits(0)) {
		t.Errorf("% x", b)
	}
	if b, e := ip.Turn(allBits(255)); b[10] != 255 || b[11] != 255 || e != api.OK {
		t.Errorf("% x, %d", b, e)
	}
	if b, e := ip.Turn(allBits(0)); b[10] != 0 || b[11] != 0 || e != api.OK {
		t.Errorf("% x, %d", b, e)
	}
	one, e1 := ip.Hop(allBits(0))
	other, e2 := ip.Hop(allBits(255))
	if !bytes.Equal(one, other) || one[10] != 1 || one[11] != 0 || e1 != api.OK || e2 != api.OK {
		t.Errorf("% x, % x", one, other)
	}
	low := allBits(0) // a hop away from 65535 is 0 as well
	low[8]++
	low = sealed(low)
	if b, e := ip.Hop(low); !bytes.Equal(b, allBits(0)) || low[10] != 254 || low[11] != 255 || e != api.OK {
		t.Errorf("% x: % x, %d", low, b, e)
	}
}

// P5.4: a hop takes 1 of the TTL, and fixes the checksum; nothing else changes.
func TestHop(t *testing.T) {
	b, e := ip.Hop(example())
	if want := []byte{69, 0, 0, 22, 0, 1, 0, 0, 63, 17, 103, 212, 10, 0, 0, 1, 10, 0, 0, 2, 7, 8}; !bytes.Equal(b, want) || e != api.OK {
		t.Errorf("% x, %d", b, e)
	}
	for ttl := range 256 {
		b := changed(8, byte(ttl))
		got, e := ip.Hop(slices.Concat(b, []byte{9, 9, 9}))
		want := changed(8, byte(ttl-1))
		wantE := api.OK
		if ttl < 2 {
			want, wantE = nil, ip.ErrTTL
		}
		if !bytes.Equal(got, want) || e != wantE {
			t.Errorf("TTL %d: % x, %d", ttl, got, e)
		}
	}
	l, data := headers()
	for i, h := range l {
		b, e := ip.Hop(written(t, h, data[i]))
		if h.TTL < 2 {
			if len(b) != 0 || e != ip.ErrTTL {
				t.Fatalf("%+v: % x, %d", h, b, e)
			}
			continue
		}
		h.TTL--
		if want := written(t, h, data[i]); !bytes.Equal(b, want) || e != api.OK {
			t.Fatalf("%+v: % x, %d", h, b, e)
		}
	}
}

// P5.4: the errors of Read come before that of a TTL.
func TestHopAndTurnFail(t *testing.T) {
	wrongSum := changed(8, 1)
	wrongSum[10]++
	for i, c := range []struct {
		b         []byte
		hop, turn api.Errno
	}{
		{nil, ip.ErrShort, ip.ErrShort}, {make([]byte, 20), ip.ErrVersion, ip.ErrVersion}, {changed(8, 0)[:27], ip.ErrHeader, ip.ErrHeader}, {changed(8, 0)[:32], ip.ErrTotal, ip.ErrTotal}, {wrongSum, ip.ErrSum, ip.ErrSum}, {changed(6, 0x80, 0, 1), ip.ErrFlags, ip.ErrFlags}, {changed(6, 0x20, 0, 0), ip.ErrOffset, ip.ErrOffset}, {changed(8, 0), ip.ErrTTL, api.OK}, {changed(8, 1), ip.ErrTTL, api.OK}, {changed(8, 2), api.OK, api.OK},
	} {
		hopped, e := ip.Hop(c.b)
		if e != c.hop || (len(hopped) == 0) != (e != api.OK) {
			t.Errorf("%d hops: % x, %d", i, hopped, e)
		}
		turned, e := ip.Turn(c.b)
		if e != c.turn || (len(turned) == 0) != (e != api.OK) {
			t.Errorf("%d turned: % x, %d", i, turned, e)
		}
	}
}

// P5.4, P5.5: a turned packet has its addresses exchanged and nothing else changed; it is right, and turned again it is as it was.
func TestTurn(t *testing.T) {
	b, e := ip.Turn(example())
	if want := []byte{69, 0, 0, 22, 0, 1, 0, 0, 64, 17, 102, 212, 10, 0, 0, 2, 10, 0, 0, 1, 7, 8}; !bytes.Equal(b, want) || e != api.OK {
		t.Errorf("% x, %d", b, e)
	}
	b, e = ip.Turn(slices.Concat(full(), []byte{9, 9, 9}))
	if want := changed(12, 0x08, 0x09, 0x0a, 0x0b, 0xc0, 0xa8, 0x01, 0xfe); !bytes.Equal(b, want) || e != api.OK {
		t.Errorf("% x, %d", b, e)
	}
	l, data := headers()
	for i, h := range l {
		b := written(t, h, data[i])
		h.Src, h.Dst = h.Dst, h.Src
		turned, e := ip.Turn(b)
		if !readAs(turned, h, 20+len(h.Options), len(b), api.OK) || e != api.OK || !csum.Right(turned[:20+len(h.Options)]) {
			t.Fatalf("%+v: % x, %d", h, turned, e)
		}
		if back, e := ip.Turn(turned); !bytes.Equal(back, b) || e != api.OK {
			t.Fatalf("% x: % x, %d", b, back, e)
		}
	}
}

// P5.5: with one bit of the header changed, but for those of H, there is no packet.
func TestOneBit(t *testing.T) {
	l, data := headers()
	packets := [][]byte{example(), full(), allBits(0), allBits(255)}
	for i := range 200 {
		packets = append(packets, written(t, l[i], data[i]))
	}
	for _, b := range packets {
		size := int(b[0]%16) * 4
		other := slices.Concat(b, make([]byte, 70000)) // also for a total length that is greater
		for bit := range size * 8 {
			if bit >= 4 && bit < 8 {
				continue
			}
			other[bit/8] ^= 128 >> (bit % 8)
			if h, from, to, e := ip.Read(other); e == api.OK || !same(h, ip.Header{}) || from != 0 || to != 0 {
				t.Fatalf("% x, bit %d: %+v, %d", b, bit, h, e)
			}
			other[bit/8] ^= 128 >> (bit % 8)
		}
	}
}

// P5.1 to P5.4: arguments stay as they are, with the memory after them, and results have no part of them.
func TestShares(t *testing.T) {
	memory := slices.Concat(full(), bytes.Repeat([]byte{99}, 80))
	b := memory[:33]
	options := []byte{1, 2, 3, 4, 98, 98, 98, 98}
	data := slices.Concat([]byte{5, 6, 7}, bytes.Repeat([]byte{97}, 80))
	spoil := func(l []byte) {
		l = l[:cap(l)]
		for i := range l {
			l[i] = 55
		}
	}
	for range 2 {
		h, _, _, _ := ip.Read(b)
		spoil(h.Options)
		hopped, _ := ip.Hop(b)
		spoil(hopped)
		turned, _ := ip.Turn(b)
		spoil(turned)
		packet, _ := ip.Write(ip.Header{Options: options[:4]}, data[:3])
		spoil(packet)
		bare, _ := ip.Write(ip.Header{}, data[:3])
		spoil(bare)
		ip.Right(ip.Header{Options: options[:4]}, 3)
	}
	if !bytes.Equal(memory, slices.Concat(full(), bytes.Repeat([]byte{99}, 80))) {
		t.Errorf("% x", memory)
	}
	if !bytes.Equal(options, []byte{1, 2, 3, 4, 98, 98, 98, 98}) || !bytes.Equal(data, slices.Concat([]byte{5, 6, 7}, bytes.Repeat([]byte{97}, 80))) {
		t.Errorf("% x, % x", options, data)
	}
	h, _, _, _ := ip.Read(b)
	hopped, _ := ip.Hop(b)
	spoil(b)
	if !bytes.Equal(h.Options, []byte{7, 8, 9, 10, 11, 12, 13, 0}) || !bytes.Equal(hopped, changed(8, 199)) {
		t.Errorf("% x, % x", h.Options, hopped)
	}
}
