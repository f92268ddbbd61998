package tcp_test

import (
	"bytes"
	"slices"
	"testing"

	"baffle/api"
	"baffle/tcp"
)

// P8.5: each option comes in its place, after the bytes that fill its row.
func TestFormat(t *testing.T) {
	both := stamp(0x01020304, 0xf5f6f7f8)
	stamped := []byte{1, 1, 8, 10, 1, 2, 3, 4, 0xf5, 0xf6, 0xf7, 0xf8}
	for i, c := range []struct {
		k    tcp.Known
		want []byte
	}{
		{known(), nil}, {known(func(k *tcp.Known) { k.Blocks = [][2]uint32{} }), nil}, {tcp.Known{}, []byte{1, 3, 3, 0}},
		{known(mss(1460), scale(7)), []byte{2, 4, 5, 180, 1, 3, 3, 7}},
		{known(mss(1)), []byte{2, 4, 0, 1}}, {known(mss(256)), []byte{2, 4, 1, 0}}, {known(mss(65535)), []byte{2, 4, 255, 255}},
		{known(scale(0)), []byte{1, 3, 3, 0}}, {known(scale(14)), []byte{1, 3, 3, 14}}, {known(selective), []byte{1, 1, 4, 2}},
		{known(both), stamped}, {known(stamp(0, 0)), []byte{1, 1, 8, 10, 0, 0, 0, 0, 0, 0, 0, 0}}, {known(stamp(0, 1)), []byte{1, 1, 8, 10, 0, 0, 0, 0, 0, 0, 0, 1}},
		{known(blocks(1)), join([]byte{1, 1, 5, 10}, blockBytes(1))}, {known(blocks(2)), join([]byte{1, 1, 5, 18}, blockBytes(2))}, {known(blocks(3)), join([]byte{1, 1, 5, 26}, blockBytes(3))}, {known(blocks(4)), join([]byte{1, 1, 5, 34}, blockBytes(4))},
		{known(mss(1460), scale(7), selective, both), join([]byte{2, 4, 5, 180, 1, 3, 3, 7, 1, 1, 4, 2}, stamped)},
		{known(mss(1460), scale(7), selective, both, blocks(1)), join([]byte{2, 4, 5, 180, 1, 3, 3, 7, 1, 1, 4, 2}, stamped, []byte{1, 1, 5, 10}, blockBytes(1))},
		{known(mss(1460), selective, blocks(3)), join([]byte{2, 4, 5, 180, 1, 1, 4, 2, 1, 1, 5, 26}, blockBytes(3))},
		{known(both, blocks(3)), join(stamped, []byte{1, 1, 5, 26}, blockBytes(3))}, {known(selective, blocks(4)), join([]byte{1, 1, 4, 2, 1, 1, 5, 34}, blockBytes(4))}, {known(mss(9), blocks(4)), join([]byte{2, 4, 0, 9, 1, 1, 5, 34}, blockBytes(4))},
	} {
		if b, e := tcp.Format(c.k); !bytes.Equal(b, c.want) || e != api.OK {
			t.Errorf("%d: %+v: % x, %d; want % x", i, c.k, b, e, c.want)
		}
	}
}

// P8.5: what is not right, and what has too many bytes; the first of both errors.
func TestFormatFails(t *testing.T) {
	for i, c := range []struct {
		k    tcp.Known
		want api.Errno
	}{
		{known(mss(-1)), api.ErrArg}, {known(mss(65536)), api.ErrArg}, {known(scale(-2)), api.ErrArg}, {known(scale(15)), api.ErrArg}, {known(blocks(5)), api.ErrArg}, {known(blocks(5), stamp(1, 2)), api.ErrArg}, {known(blocks(300)), api.ErrArg},
		{tcp.Known{Scale: -1, Stamp: 1}, api.ErrArg}, {tcp.Known{Scale: -1, Echo: 1}, api.ErrArg}, {known(blocks(4), stamp(1, 2), mss(65536)), api.ErrArg}, {known(blocks(4), stamp(1, 2), scale(15)), api.ErrArg},
		{known(blocks(4), stamp(0, 0)), api.ErrLong}, {known(blocks(4), stamp(1, 2), mss(5), scale(5), selective), api.ErrLong}, {known(blocks(4), mss(5), scale(5)), api.ErrLong}, {known(blocks(4), mss(5), selective), api.ErrLong}, {known(blocks(4), selective, scale(0)), api.ErrLong}, {known(blocks(3), stamp(1, 2), selective), api.ErrLong}, {known(blocks(3), stamp(1, 2), mss(1)), api.ErrLong}, {known(blocks(3), stamp(1, 2), scale(0)), api.ErrLong}, {known(blocks(2), stamp(1, 2), mss(5), scale(5), selective), api.ErrLong}, {known(blocks(2), stamp(1, 2), mss(5), scale(5)), api.OK},
	} {
		if b, e := tcp.Format(c.k); e != c.want || e != api.OK && len(b) != 0 || e == api.OK && len(b) != 40 {
			t.Errorf("%d: %+v: % x, %d; want %d", i, c.k, b, e, c.want)
		}
	}
}

// knowns have each option, or have it not, in all ways, with different numbers.
func knowns() []tcp.Known {
	next := generator(11)
	var l []tcp.Known
	for i := range 16 * 5 * 20 {
		k := known(blocks(i / 16 % 5))
		if i&1 != 0 {
			k.MSS = 1 + next(65535)
		}
		if i&2 != 0 {
			k.Scale = next(15)
		}
		k.Selective = i&4 != 0
		if i&8 != 0 {
			k.Stamped, k.Stamp, k.Echo = true, uint32(next(1<<24))*257, uint32(next(1<<24))*259
		}
		for j := range k.Blocks {
			k.Blocks[j] = [2]uint32{uint32(next(1<<24)) * 263, uint32(next(1<<24)) * 257}
		}
		l = append(l, k)
	}
	return l
}

// extent is how many bytes the options of a Known that is right have.
func extent(k tcp.Known) int {
	n := 0
	for _, has := range []bool{k.MSS > 0, k.Scale >= 0, k.Selective} {
		if has {
			n += 4
		}
	}
	if k.Stamped {
		n += 12
	}
	if len(k.Blocks) > 0 {
		n += 4 + 8*len(k.Blocks)
	}
	return n
}

// P8.5, P8.6: known options are too long, or are parsed as they were; they fit into a header, and come out of it.
func TestFormattedIsParsed(t *testing.T) {
	for _, k := range knowns() {
		b, e := tcp.Format(k)
		if extent(k) > 40 {
			if len(b) != 0 || e != api.ErrLong {
				t.Fatalf("%+v: % x, %d", k, b, e)
			}
			continue
		}
		again, e2 := tcp.Parse(b)
		if e != api.OK || e2 != api.OK || len(b) != extent(k) || !sameKnown(again, k) {
			t.Fatalf("%+v: % x, %d: %+v, %d", k, b, e, again, e2)
		}
		whole := written(t, tcp.Header{SrcPort: 1, DstPort: 2, Flags: api.SYN, Options: b}, from, to, nil)
		if h, at, e := tcp.Read(whole); !bytes.Equal(h.Options, b) || at != len(whole) || e != api.OK {
			t.Fatalf("% x: % x, %d, %d", b, h.Options, at, e)
		}
	}
}

// P8.6: bytes 1 and unknown options between known ones change nothing, nor does what follows the end.
func TestBetween(t *testing.T) {
	between := [][]byte{{1}, {1, 1, 1}, {6, 2}, {7, 3, 2}, {255, 4, 4, 2}, {9, 2, 9, 2, 1}, {6, 4, 0, 0}}
	after := [][]byte{{0}, {0, 2}, {0, 4, 2, 4, 2}, {0, 255, 255}}
	for _, k := range knowns() {
		b, e := tcp.Format(k)
		if e != api.OK {
			continue
		}
		check := func(b []byte) {
			if len(b) > 40 {
				return
			}
			if again, e := tcp.Parse(b); e != api.OK || !sameKnown(again, k) {
				t.Fatalf("%+v: % x: %+v, %d", k, b, again, e)
			}
		}
		for at := 0; at <= len(b); { // each place where an option begins, or where all of them end
			for _, more := range between {
				check(slices.Insert(slices.Clone(b), at, more...))
			}
			n := 1
			if at < len(b) && b[at] != 1 {
				n = int(b[at+1])
			}
			at += n
		}
		for _, more := range after {
			check(slices.Concat(b, more))
		}
	}
}
