package tcp_test

import (
	"bytes"
	"slices"
	"testing"

	"baffle/api"
	"baffle/tcp"
)

// example is the segment of the document's examples.
func example() []byte {
	return []byte{4, 0, 0, 80, 0, 0, 0, 1, 0, 0, 0, 0, 80, 2, 2, 0, 149, 143, 0, 0}
}

// The addresses of the document's examples.
const (
	from = 0x0a000001
	to   = 0x0a000002
)

// full is a segment with something in each place: eight bytes of options and five of data. Its checksum is not right.
func full() []byte {
	return []byte{
		0x9c, 0x41, 0x01, 0xbb, 0x12, 0x34, 0x56, 0x78, 0x9a, 0xbc, 0xde, 0xf0, 0x70, 0xd9, 0xfe, 0xdc, 0x11, 0x22, 0x33, 0x44,
		2, 4, 5, 180, 1, 3, 3, 7, 11, 12, 13, 14, 15,
	}
}

// fullHeader is the header of full.
func fullHeader() tcp.Header {
	return tcp.Header{SrcPort: 40001, DstPort: 443, Seq: 0x12345678, Ack: 0x9abcdef0, Flags: 0xd9, Window: 0xfedc, Urgent: 0x3344, Options: []byte{2, 4, 5, 180, 1, 3, 3, 7}}
}

// changed is full with other bytes from a place on.
func changed(at int, bytes ...byte) []byte {
	b := full()
	copy(b[at:], bytes)
	return b
}

func same(a, b tcp.Header) bool {
	options := bytes.Equal(a.Options, b.Options)
	a.Options, b.Options = nil, nil
	return options && a.SrcPort == b.SrcPort && a.DstPort == b.DstPort && a.Seq == b.Seq && a.Ack == b.Ack && a.Flags == b.Flags && a.Window == b.Window && a.Urgent == b.Urgent
}

// readAs reports whether some bytes have a header, an index of the first byte of data, and an error.
func readAs(b []byte, h tcp.Header, at int, e api.Errno) bool {
	got, gotAt, gotE := tcp.Read(b)
	return same(got, h) && gotAt == at && gotE == e
}

// P8.1: each field is read from its place; the checksum and all flags but a few do not matter.
func TestRead(t *testing.T) {
	syn := tcp.Header{SrcPort: 1024, DstPort: 80, Seq: 1, Flags: api.SYN, Window: 512}
	short := fullHeader()
	short.Options = short.Options[:4]
	bare := fullHeader()
	bare.Options = nil
	long := fullHeader()
	long.Options = slices.Concat(long.Options, make([]byte, 32))
	for i, c := range []struct {
		b  []byte
		h  tcp.Header
		at int
	}{
		{example(), syn, 20}, {slices.Concat(example(), []byte{9}), syn, 20}, {full(), fullHeader(), 28}, {full()[:28], fullHeader(), 28},
		{changed(12, 0x60), short, 24}, {changed(12, 0x60)[:24], short, 24}, {changed(12, 0x50), bare, 20}, {changed(12, 0x50)[:20], bare, 20},
		{changed(16, 0, 0), fullHeader(), 28}, {changed(16, 255, 255), fullHeader(), 28},
		{slices.Concat(changed(12, 0xf0)[:28], make([]byte, 32)), long, 60}, {slices.Concat(changed(12, 0xf0)[:28], make([]byte, 100)), long, 60},
		{slices.Concat(full(), make([]byte, 1<<17)), fullHeader(), 28},
		{[]byte{0, 1, 1, 0, 10: 0, 12: 0x50, 13: 16, 19: 0}, tcp.Header{SrcPort: 1, DstPort: 256, Flags: api.ACK}, 20},
		{slices.Concat(bytes.Repeat([]byte{255}, 12), []byte{0x50, 0xf8, 255, 255, 255, 255, 255, 255}), tcp.Header{SrcPort: 65535, DstPort: 65535, Seq: 1<<32 - 1, Ack: 1<<32 - 1, Flags: 0xf8, Window: 65535, Urgent: 65535}, 20},
	} {
		if !readAs(c.b, c.h, c.at, api.OK) {
			h, at, e := tcp.Read(c.b)
			t.Errorf("%d: %+v, %d, %d", i, h, at, e)
		}
	}
}

// P8.1: each error at its limits, and the first one of several.
func TestReadFails(t *testing.T) {
	for i, c := range []struct {
		b    []byte
		want api.Errno
	}{
		{nil, tcp.ErrShort}, {[]byte{}, tcp.ErrShort}, {[]byte{0}, tcp.ErrShort}, {example()[:19], tcp.ErrShort}, {full()[:19], tcp.ErrShort}, {make([]byte, 19), tcp.ErrShort}, {make([]byte, 13), tcp.ErrShort}, {make([]byte, 12), tcp.ErrShort},
		{make([]byte, 20), tcp.ErrHeader}, {changed(12, 0x40), tcp.ErrHeader}, {changed(12, 0), tcp.ErrHeader}, {changed(12, 0x4f), tcp.ErrHeader}, {full()[:27], tcp.ErrHeader}, {full()[:20], tcp.ErrHeader}, {changed(12, 0x90), tcp.ErrHeader}, {changed(12, 0xf0), tcp.ErrHeader}, {bytes.Repeat([]byte{255}, 59), tcp.ErrHeader},
		{bytes.Repeat([]byte{255}, 60), tcp.ErrFlags}, {changed(12, 0x71), tcp.ErrFlags}, {changed(12, 0x72), tcp.ErrFlags}, {changed(12, 0x74), tcp.ErrFlags}, {changed(12, 0x78), tcp.ErrFlags}, {changed(13, 0), tcp.ErrFlags}, {changed(13, 1), tcp.ErrFlags}, {changed(13, 8), tcp.ErrFlags}, {changed(13, 3), tcp.ErrFlags}, {changed(13, 6), tcp.ErrFlags}, {changed(13, 21), tcp.ErrFlags}, {changed(13, 0xc0), tcp.ErrFlags},
		{changed(0, 0, 0), tcp.ErrPort}, {changed(2, 0, 0), tcp.ErrPort}, {changed(0, 0, 0, 0, 0), tcp.ErrPort}, {changed(0, 0), api.OK}, {changed(1, 0), api.OK}, {changed(2, 0), api.OK}, {changed(3, 0), api.OK},
		{changed(0, 0, 0)[:27], tcp.ErrHeader}, {slices.Concat([]byte{0, 0}, changed(13, 0)[2:]), tcp.ErrFlags}, {slices.Concat([]byte{0, 0}, changed(12, 0x7f)[2:]), tcp.ErrFlags}, {changed(12, 0x9f, 0), tcp.ErrHeader}, {changed(12, 0x4f, 0)[:19], tcp.ErrShort},
	} {
		h, at, e := tcp.Read(c.b)
		if e != c.want || e != api.OK && (!same(h, tcp.Header{}) || at != 0) {
			t.Errorf("%d: %+v, %d, %d; want %d", i, h, at, e, c.want)
		}
	}
}

// errorOf is the definition, one error after the other.
func errorOf(b []byte) api.Errno {
	if len(b) < 20 {
		return 80
	}
	size := int(b[12]/16) * 4
	if size < 20 || size > len(b) {
		return 81
	}
	if !saneBy(b[13]) || b[12]%16 > 0 {
		return 82
	}
	if b[0] == 0 && b[1] == 0 || b[2] == 0 && b[3] == 0 {
		return 83
	}
	return 0
}

// P8.1: pseudo-random bytes, and all bytes in each place of two segments.
func TestReadByDefinition(t *testing.T) {
	check := func(b []byte) {
		h, at, e := tcp.Read(b)
		want := errorOf(b)
		if e != want || e != api.OK && (at != 0 || !same(h, tcp.Header{})) {
			t.Fatalf("% x: %+v, %d, %d; want %d", b, h, at, e, want)
		}
		if e == api.OK && (at != int(b[12]/16)*4 || !bytes.Equal(h.Options, b[20:at]) || h.Flags != b[13]) {
			t.Fatalf("% x: %+v, %d", b, h, at)
		}
	}
	next := generator(1)
	for i := range 40000 {
		b := make([]byte, i%80)
		for j := range b {
			b[j] = byte(next(256))
		}
		check(b)
		if len(b) > 13 { // what looks like a segment
			b[12] &= 0xf0
			check(b)
			b[0], b[1] = 0, b[1]%2
			check(b)
		}
	}
	for _, b := range [][]byte{example(), full()} {
		for at := range b {
			for c := range 256 {
				other := slices.Clone(b)
				other[at] = byte(c)
				check(other)
				check(other[:at])
			}
		}
	}
}
