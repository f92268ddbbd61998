package tcp_test

import (
	"bytes"
	"math"
	"slices"
	"testing"

	"baffle/api"
	"baffle/tcp"
)

// written returns the segment with a header and data.
func written(t *testing.T, h tcp.Header, src, dst uint32, data []byte) []byte {
	t.Helper()
	b, e := tcp.Write(h, src, dst, data)
	if e != api.OK {
		t.Fatalf("%+v, %d bytes: %d", h, len(data), e)
	}
	return b
}

// sumOf is the sum of the pseudo header and of a segment, carry by carry.
func sumOf(b []byte, src, dst uint32) int {
	s := int(src>>16) + int(src&65535) + int(dst>>16) + int(dst&65535) + 6 + len(b)
	for i, c := range b {
		s += int(c) << (8 - i%2*8)
	}
	for s > 65535 {
		s -= 65535
	}
	return s
}

// sealed returns a segment with the checksum that it must have.
func sealed(b []byte, src, dst uint32) []byte {
	b = slices.Clone(b)
	b[16], b[17] = 0, 0
	check := 65535 - sumOf(b, src, dst)
	b[16], b[17] = byte(check>>8), byte(check)
	return b
}

// P8.2: each field comes where it belongs, and the checksum is right.
func TestWrite(t *testing.T) {
	syn := tcp.Header{SrcPort: 1024, DstPort: 80, Seq: 1, Flags: api.SYN, Window: 512}
	least := tcp.Header{SrcPort: 1, DstPort: 1, Flags: api.RST}
	most := tcp.Header{SrcPort: 65535, DstPort: 65535, Seq: math.MaxUint32, Ack: math.MaxUint32, Flags: 0xf8, Window: 65535, Urgent: 65535, Options: bytes.Repeat([]byte{255}, 40)}
	for i, c := range []struct {
		h        tcp.Header
		src, dst uint32
		data     []byte
		want     []byte
	}{
		{syn, from, to, nil, example()}, {syn, from, to, []byte{}, example()},
		{syn, from, to, []byte{7}, sealed(append(example(), 7), from, to)}, {syn, from, to, []byte{7, 8}, sealed(append(example(), 7, 8), from, to)},
		{fullHeader(), 0xc0a801fe, 0x08090a0b, full()[28:], sealed(full(), 0xc0a801fe, 0x08090a0b)},
		{fullHeader(), 0, 0, full()[28:], sealed(full(), 0, 0)}, {fullHeader(), math.MaxUint32, math.MaxUint32, full()[28:], sealed(full(), math.MaxUint32, math.MaxUint32)},
		{least, from, to, nil, sealed([]byte{1: 1, 3: 1, 12: 0x50, 13: 4, 19: 0}, from, to)},
		{most, to, from, []byte{9}, sealed(slices.Concat(bytes.Repeat([]byte{255}, 12), []byte{0xf0, 0xf8}, bytes.Repeat([]byte{255}, 46), []byte{9}), to, from)},
		{least, from, to, make([]byte, 65495), sealed([]byte{1: 1, 3: 1, 12: 0x50, 13: 4, 65514: 0}, from, to)},
		{tcp.Header{SrcPort: 1, DstPort: 1, Flags: 16, Options: make([]byte, 40)}, from, to, make([]byte, 65455), sealed([]byte{1: 1, 3: 1, 12: 0xf0, 13: 16, 65514: 0}, from, to)},
	} {
		if b, e := tcp.Write(c.h, c.src, c.dst, c.data); !bytes.Equal(b, c.want) || e != api.OK {
			t.Errorf("%d: % x, %d; want % x", i, b[:min(len(b), 80)], e, c.want[:min(len(c.want), 80)])
		}
	}
}

// P8.2: what no segment may have.
func TestWriteFails(t *testing.T) {
	good := func() tcp.Header { return tcp.Header{SrcPort: 1, DstPort: 1, Flags: api.ACK} }
	with := func(change func(h *tcp.Header)) tcp.Header {
		h := good()
		change(&h)
		return h
	}
	options := func(n int) tcp.Header { return with(func(h *tcp.Header) { h.Options = make([]byte, n) }) }
	for i, c := range []struct {
		h    tcp.Header
		n    int
		want api.Errno
	}{
		{good(), 0, api.OK}, {tcp.Header{}, 0, api.ErrArg},
		{with(func(h *tcp.Header) { h.SrcPort = 0 }), 5, api.ErrArg}, {with(func(h *tcp.Header) { h.DstPort = 0 }), 5, api.ErrArg},
		{options(1), 3, api.ErrArg}, {options(2), 2, api.ErrArg}, {options(3), 1, api.ErrArg}, {options(4), 0, api.OK}, {options(5), 0, api.ErrArg}, {options(36), 0, api.OK}, {options(39), 1, api.ErrArg}, {options(40), 1, api.OK}, {options(41), 0, api.ErrArg}, {options(44), 0, api.ErrArg}, {options(256), 0, api.ErrArg}, {options(1 << 16), 0, api.ErrArg}, {options(70000), 0, api.ErrArg},
		{good(), 65495, api.OK}, {good(), 65496, api.ErrArg}, {good(), 65515, api.ErrArg}, {good(), 65516, api.ErrArg}, {good(), 65536, api.ErrArg}, {good(), 1 << 20, api.ErrArg}, {options(4), 65491, api.OK}, {options(4), 65492, api.ErrArg}, {options(40), 65455, api.OK}, {options(40), 65456, api.ErrArg},
	} {
		b, e := tcp.Write(c.h, from, to, make([]byte, c.n))
		if e != c.want || e != api.OK && len(b) != 0 || e == api.OK && len(b) != 20+len(c.h.Options)+c.n {
			t.Errorf("%d: %d bytes, %d", i, len(b), e)
		}
	}
	for flags := range 256 {
		h := good()
		h.Flags = uint8(flags)
		b, e := tcp.Write(h, from, to, []byte{1})
		if ok := saneBy(h.Flags); ok != (e == api.OK) || ok != (len(b) == 21) || !ok && e != api.ErrArg {
			t.Errorf("%08b: % x, %d", flags, b, e)
		}
	}
}

// P8.2: the checksum is right, between these addresses, of a number of bytes that a packet may have; nothing else matters.
func TestVerify(t *testing.T) {
	other := example()
	other[17]--
	for i, c := range []struct {
		b        []byte
		src, dst uint32
		want     bool
	}{
		{example(), from, to, true}, {example(), to, from, true}, {example(), from, to + 1, false}, {example(), from + 1, to, false}, {example(), 0, 0, false}, {example(), from + 1, to - 1, true}, {example(), 0x00010a00, to, true},
		{other, from, to, false}, {other, from, to + 1, true}, {example()[:19], from, to, false}, {nil, from, to, false}, {[]byte{}, 0, 0, false}, {append(example(), 0), from, to, false}, {sealed(append(example(), 0), from, to), from, to, true},
		{full(), from, to, false}, {sealed(full(), from, to), from, to, true}, {sealed(make([]byte, 20), from, to), from, to, true}, {sealed(make([]byte, 20), 0, 0), 0, 0, true}, {sealed(bytes.Repeat([]byte{255}, 20), from, to), from, to, true}, {make([]byte, 20), from, to, false}, {make([]byte, 20), 0, 0, false},
		{sealed(make([]byte, 65515), from, to), from, to, true}, {sealed(make([]byte, 65516), from, to), from, to, true}, {sealed(make([]byte, 65535), from, to), from, to, true}, {sealed(make([]byte, 65536), from, to), from, to, false}, {make([]byte, 1<<17), from, to, false},
	} {
		if got := tcp.Verify(c.b, c.src, c.dst); got != c.want {
			t.Errorf("%d: %v", i, got)
		}
	}
}

// P8.2: no other numbers of bytes are verified, whatever of a length or of the pseudo header is counted.
func TestVerifyLengths(t *testing.T) {
	for n := 2; n < 20; n++ {
		for first := range 65536 {
			b := make([]byte, n)
			b[0], b[1] = byte(first>>8), byte(first)
			if tcp.Verify(b, from, to) {
				t.Fatalf("% x is right", b)
			}
		}
	}
	for n := 65536; n < 65540; n++ {
		b := make([]byte, n)
		for first := 65000; first < 65536; first++ { // one of them is right, since the sum of all the rest is small
			b[0], b[1] = byte(first>>8), byte(first)
			if tcp.Verify(b, 0, 0) {
				t.Fatalf("%d bytes that begin with % x are right", n, b[:2])
			}
		}
	}
}

// P8.2: both checksums are right where their words add up to all bits: the one that is written, 0, and 65535.
func TestBothChecksums(t *testing.T) {
	h := tcp.Header{SrcPort: 5, DstPort: 6, Flags: api.ACK}
	b := written(t, h, from, to, nil)
	h.Window = uint16(b[16])<<8 | uint16(b[17])
	b = written(t, h, from, to, nil)
	if b[16] != 0 || b[17] != 0 || !tcp.Verify(b, from, to) {
		t.Errorf("% x", b)
	}
	b[16], b[17] = 255, 255
	if !tcp.Verify(b, from, to) {
		t.Errorf("% x is not right", b)
	}
	b[17] = 254
	if tcp.Verify(b, from, to) {
		t.Errorf("% x is right", b)
	}
}

// segment is a header with what it is written for.
type segment struct {
	h        tcp.Header
	src, dst uint32
	data     []byte
}

// segments are pseudo-random, with all numbers of bytes of options.
func segments() []segment {
	next := generator(7)
	some := func(n int) []byte {
		b := make([]byte, n)
		for i := range b {
			b[i] = byte(next(256))
		}
		return b
	}
	long := func() uint32 { return uint32(next(65536))<<16 | uint32(next(65536)) }
	var l []segment
	for i := range 3000 {
		h := tcp.Header{SrcPort: uint16(next(65535) + 1), DstPort: uint16(next(65535) + 1), Seq: long(), Ack: long(), Flags: uint8(next(256)), Window: uint16(next(65536)), Urgent: uint16(next(65536)), Options: some(i % 11 * 4)}
		if !saneBy(h.Flags) {
			h.Flags = h.Flags&^7 | api.ACK
		}
		l = append(l, segment{h, long(), long(), some(next(70))})
	}
	return l
}

// P8.6: what is written is read as it was, and is verified.
func TestWrittenIsRead(t *testing.T) {
	for _, s := range segments() {
		b := written(t, s.h, s.src, s.dst, s.data)
		at := 20 + len(s.h.Options)
		if !readAs(b, s.h, at, api.OK) || !bytes.Equal(b[at:], s.data) || !tcp.Verify(b, s.src, s.dst) {
			t.Fatalf("%+v: % x", s, b)
		}
		if !bytes.Equal(b, sealed(b, s.src, s.dst)) {
			t.Fatalf("%+v: % x has another checksum", s, b)
		}
	}
}

// P8.6: with one bit changed, of a segment or of an address, it is not verified.
func TestOneBit(t *testing.T) {
	l := segments()[:200]
	l = append(l, segment{tcp.Header{SrcPort: 1024, DstPort: 80, Seq: 1, Flags: api.SYN, Window: 512}, from, to, nil})
	for _, s := range l {
		b := written(t, s.h, s.src, s.dst, s.data)
		for bit := range len(b) * 8 {
			b[bit/8] ^= 128 >> (bit % 8)
			if tcp.Verify(b, s.src, s.dst) {
				t.Fatalf("% x, bit %d: right", b, bit)
			}
			b[bit/8] ^= 128 >> (bit % 8)
		}
		for bit := range 32 {
			if tcp.Verify(b, s.src^1<<bit, s.dst) || tcp.Verify(b, s.src, s.dst^1<<bit) {
				t.Fatalf("% x, bit %d of an address: right", b, bit)
			}
		}
	}
}
