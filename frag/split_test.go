package frag_test

import (
	"bytes"
	"math"
	"slices"
	"testing"

	"baffle/api"
	"baffle/frag"
	"baffle/ip"
)

// header is a header with something in each place that pieces keep.
func header() ip.Header {
	return ip.Header{TOS: 0xb8, ID: 0x1234, TTL: 200, Proto: 17, Src: 0xc0a801fe, Dst: 0x08090a0b}
}

// data returns n bytes that are not all the same.
func data(n int) []byte {
	b := make([]byte, n)
	for i := range b {
		b[i] = byte(i*7 + i>>8 + 1)
	}
	return b
}

// packet returns the bytes of a packet that is right.
func packet(t testing.TB, h ip.Header, data []byte) []byte {
	t.Helper()
	b, e := ip.Write(h, data)
	if e != api.OK {
		t.Fatal("not a packet", h, len(data), e)
	}
	return b
}

// split returns the pieces of a packet that can be split.
func split(t testing.TB, b []byte, size int) [][]byte {
	t.Helper()
	l, e := frag.Split(b, size)
	if e != api.OK {
		t.Fatal("not split", size, e)
	}
	return l
}

// generator returns numbers that are always the same ones, each less than n.
func generator(seed uint32) func(n int) int {
	return func(n int) int {
		seed = seed*1664525 + 1013904223
		return int(seed>>8) % n
	}
}

func sameAll(a, b [][]byte) bool { return slices.EqualFunc(a, b, bytes.Equal) }

// faulty returns bytes for each error of ip.Read, with the number of bytes of data that a packet with all of them would have.
func faulty(t testing.TB, n int) map[api.Errno][]byte {
	h := header()
	h.DF = true
	changed := func(change func(b []byte)) []byte {
		b := packet(t, h, data(n))
		change(b)
		return sealed(b)
	}
	sum := packet(t, h, data(n))
	sum[11] ^= 1
	return map[api.Errno][]byte{
		ip.ErrShort:   packet(t, h, data(n))[:19],
		ip.ErrVersion: changed(func(b []byte) { b[0] = 0x65 }),
		ip.ErrHeader:  changed(func(b []byte) { b[0] = 0x44 }),
		ip.ErrTotal:   packet(t, h, data(n))[:20+n-1],
		ip.ErrSum:     sum,
		ip.ErrFlags:   changed(func(b []byte) { b[6] |= 0x80 }),
		ip.ErrOffset:  changed(func(b []byte) { b[6], b[7] = b[6]|0x1f, 0xff }),
	}
}

// sealed puts the checksum into a header of 20 bytes, sum by sum.
func sealed(b []byte) []byte {
	b[10], b[11] = 0, 0
	sum := 0
	for i := 0; i < 20; i += 2 {
		sum += int(b[i])<<8 | int(b[i+1])
	}
	sum = 65535 - (sum%65536+sum/65536)%65535
	b[10], b[11] = byte(sum>>8), byte(sum)
	return b
}

// P7.1: the document's example.
func TestSplitExample(t *testing.T) {
	d := data(20)
	l := split(t, packet(t, header(), d), 8)
	if len(l) != 3 {
		t.Fatal(l)
	}
	for i, want := range []struct {
		offset int
		more   bool
		data   []byte
	}{{0, true, d[:8]}, {8, true, d[8:16]}, {16, false, d[16:]}} {
		h, from, to, e := ip.Read(l[i])
		if h.Offset != want.offset || h.MF != want.more || !bytes.Equal(l[i][from:to], want.data) || to != len(l[i]) || e != api.OK {
			t.Error(i, l[i])
		}
	}
}

// P7.1: sizes that are none, whatever the bytes are.
func TestSplitSizes(t *testing.T) {
	b := packet(t, header(), data(20))
	for _, size := range []int{0, 1, 4, 7, 9, 12, 15, 17, 20, 65535, -1, -7, -8, -16, math.MinInt, math.MinInt + 8, math.MaxInt} {
		for _, bytes := range [][]byte{b, nil, b[:21]} {
			if l, e := frag.Split(bytes, size); l != nil || e != api.ErrArg {
				t.Error(size, l, e)
			}
		}
	}
	for _, size := range []int{24, 32, 65512, 65520, 65536, 1 << 32, math.MaxInt - 7} {
		if l := split(t, b, size); !sameAll(l, [][]byte{b}) {
			t.Error(size, l)
		}
	}
}

// P7.1: the errors of ip.Read, which come before that of DF.
func TestSplitErrors(t *testing.T) {
	for want, b := range faulty(t, 20) {
		for _, size := range []int{8, 16, 24} {
			if l, e := frag.Split(b, size); l != nil || e != want {
				t.Error(want, size, l, e)
			}
		}
		if l, e := frag.Split(b, 12); l != nil || e != api.ErrArg {
			t.Error(want, l, e)
		}
	}
}

// P7.1: what may not be split is returned if it is not.
func TestSplitDF(t *testing.T) {
	for _, c := range []struct {
		n, size int
		offset  int
		more    bool
		want    api.Errno
	}{
		{0, 8, 0, false, api.OK}, {8, 8, 0, false, api.OK}, {9, 8, 0, false, frag.ErrDF}, {16, 8, 0, false, frag.ErrDF}, {20, 16, 0, false, frag.ErrDF}, {20, 24, 0, false, api.OK},
		{16, 16, 8, true, api.OK}, {16, 8, 8, true, frag.ErrDF}, {65515, 65512, 0, false, frag.ErrDF}, {65515, 65520, 0, false, api.OK},
	} {
		h := header()
		h.DF, h.Offset, h.MF = true, c.offset, c.more
		b := packet(t, h, data(c.n))
		var want [][]byte
		if c.want == api.OK {
			want = [][]byte{b}
		}
		if l, e := frag.Split(b, c.size); !sameAll(l, want) || e != c.want {
			t.Error(c, l, e)
		}
	}
}

// P7.1: the only piece is the packet as it is, with another checksum that is right, too, and without the bytes after it.
func TestSplitOnly(t *testing.T) {
	for _, n := range []int{0, 1, 7, 8, 20, 24} {
		b := packet(t, header(), data(n))
		if l := split(t, append(slices.Clone(b), 1, 2, 3), 24); !sameAll(l, [][]byte{b}) {
			t.Error(n, l)
		}
	}
	h := header()
	for id := range 65536 { // one of them has the checksum 0
		h.ID = uint16(id)
		b := packet(t, h, data(8))
		if b[10] == 0 && b[11] == 0 {
			b[10], b[11] = 255, 255
			if l := split(t, b, 8); !sameAll(l, [][]byte{b}) {
				t.Error(l)
			}
			return
		}
	}
	t.Error("none has the checksum 0")
}

// pieces is the definition: byte by byte a piece is begun, or goes on.
func pieces(h ip.Header, data []byte, size int) ([]ip.Header, [][]byte) {
	var headers []ip.Header
	var l [][]byte
	for i, c := range data {
		if i%size == 0 {
			piece := h
			piece.Offset, piece.MF = h.Offset+i, true
			headers, l = append(headers, piece), append(l, nil)
		}
		l[len(l)-1] = append(l[len(l)-1], c)
	}
	headers[len(l)-1].MF = h.MF
	return headers, l
}

// P7.1: packets of all lengths, whole and not, with options, and with bytes after them.
func TestSplitByDefinition(t *testing.T) {
	next := generator(7)
	for n := 1; n < 200; n++ {
		for size := 8; size < 80; size += 8 {
			h := header()
			h.Offset, h.Options = next(3)*8*next(8000), data(next(11)*4)
			h.Offset = min(h.Offset, (ip.MaxData-n)/8*8)
			h.MF = n%8 == 0 && next(2) == 0
			if n <= size {
				h.DF = next(2) == 0
			}
			d := data(n)
			headers, parts := pieces(h, d, size)
			var want [][]byte
			for i := range parts {
				want = append(want, packet(t, headers[i], parts[i]))
			}
			b := append(packet(t, h, d), data(next(3))...)
			if l := split(t, b, size); !sameAll(l, want) {
				t.Fatal(h, n, size, l)
			}
		}
	}
}

// P7.1: the longest packets.
func TestSplitLongest(t *testing.T) {
	for _, c := range []struct{ n, options, size, want int }{
		{65515, 0, 8, 8190}, {65515, 0, 65512, 2}, {65515, 0, 32760, 2}, {65515, 0, 32752, 3}, {65475, 40, 8, 8185}, {65475, 40, 65472, 2}, {65475, 40, 65480, 1}, {65512, 0, 8, 8189},
	} {
		h := header()
		h.Options = data(c.options)
		b := packet(t, h, data(c.n))
		l := split(t, b, c.size)
		if len(l) != c.want {
			t.Error(c, len(l))
		}
		var all []byte
		for i, piece := range l {
			g, from, to, e := ip.Read(piece)
			if g.Offset != i*c.size || g.MF != (i < len(l)-1) || !bytes.Equal(g.Options, h.Options) || e != api.OK {
				t.Error(c, i, g, e)
			}
			all = append(all, piece[from:to]...)
		}
		if !bytes.Equal(all, data(c.n)) {
			t.Error(c, "other data")
		}
	}
	h := header()
	h.Offset = 65504
	if l := split(t, packet(t, h, data(11)), 8); len(l) != 2 || len(l[0]) != 28 || len(l[1]) != 23 {
		t.Error(l)
	}
}

// P7.5: what is split, and then each piece again, is split as if it had been at once.
func TestSplitAgain(t *testing.T) {
	next := generator(11)
	for n := range 300 {
		h := header()
		h.Offset, h.Options = next(2)*800, data(next(3)*4)
		h.MF = n > 0 && n%8 == 0 && next(2) == 0
		b := packet(t, h, data(n))
		size := 8 * (1 + next(5))
		var again [][]byte
		for _, piece := range split(t, b, size*(1+next(5))) {
			again = append(again, split(t, piece, size)...)
		}
		if !sameAll(again, split(t, b, size)) {
			t.Fatal(n, size, again)
		}
	}
}
