package tcp_test

import (
	"bytes"
	"math"
	"slices"
	"testing"

	"baffle/api"
	"baffle/tcp"
)

// known returns a Known of which nothing is known, but for what is changed.
func known(changes ...func(k *tcp.Known)) tcp.Known {
	k := tcp.Known{Scale: -1}
	for _, change := range changes {
		change(&k)
	}
	return k
}

func mss(n int) func(k *tcp.Known) { return func(k *tcp.Known) { k.MSS = n } }

func scale(n int) func(k *tcp.Known) { return func(k *tcp.Known) { k.Scale = n } }

func selective(k *tcp.Known) { k.Selective = true }

func stamp(stamp, echo uint32) func(k *tcp.Known) {
	return func(k *tcp.Known) { k.Stamped, k.Stamp, k.Echo = true, stamp, echo }
}

// blocks has so many blocks, of numbers that all differ.
func blocks(n int) func(k *tcp.Known) {
	return func(k *tcp.Known) {
		for i := range uint32(n) {
			k.Blocks = append(k.Blocks, [2]uint32{0x01020304 + i<<24, 0xf1f2f3f4 + i})
		}
	}
}

// blockBytes are the bytes of blocks.
func blockBytes(n int) []byte {
	var b []byte
	for i := range byte(n) {
		b = append(b, 1+i, 2, 3, 4, 0xf1, 0xf2, 0xf3, 0xf4+i)
	}
	return b
}

func sameKnown(a, b tcp.Known) bool {
	return a.MSS == b.MSS && a.Scale == b.Scale && a.Selective == b.Selective && a.Stamped == b.Stamped && a.Stamp == b.Stamp && a.Echo == b.Echo && slices.Equal(a.Blocks, b.Blocks)
}

func join(l ...[]byte) []byte { return slices.Concat(l...) }

// P8.4: each field at its limits.
func TestRight(t *testing.T) {
	unstamped := func(stamp, echo uint32) func(k *tcp.Known) {
		return func(k *tcp.Known) { k.Stamp, k.Echo = stamp, echo }
	}
	none := func(k *tcp.Known) { k.Blocks = [][2]uint32{} }
	for i, c := range []struct {
		k    tcp.Known
		want bool
	}{
		{known(), true}, {tcp.Known{}, true}, {known(none), true}, {known(selective), true},
		{known(mss(1)), true}, {known(mss(1460)), true}, {known(mss(65535)), true}, {known(mss(65536)), false}, {known(mss(-1)), false}, {known(mss(math.MinInt)), false}, {known(mss(math.MaxInt)), false}, {known(mss(1 << 32)), false},
		{known(scale(0)), true}, {known(scale(7)), true}, {known(scale(14)), true}, {known(scale(15)), false}, {known(scale(-2)), false}, {known(scale(255)), false}, {known(scale(256)), false}, {known(scale(math.MinInt)), false}, {known(scale(math.MaxInt)), false},
		{known(stamp(0, 0)), true}, {known(stamp(1, 0)), true}, {known(stamp(0, 1)), true}, {known(stamp(math.MaxUint32, math.MaxUint32)), true}, {known(unstamped(1, 0)), false}, {known(unstamped(0, 1)), false}, {known(unstamped(math.MaxUint32, math.MaxUint32)), false}, {known(unstamped(1<<31, 1<<31)), false},
		{known(blocks(1)), true}, {known(blocks(2)), true}, {known(blocks(3)), true}, {known(blocks(4)), true}, {known(blocks(5)), false}, {known(blocks(8)), false}, {known(blocks(256)), false}, {known(blocks(257)), false},
		{known(mss(65535), scale(14), selective, stamp(1, 2), blocks(4)), true}, {known(mss(65536), scale(14), selective, stamp(1, 2), blocks(4)), false}, {known(mss(65535), scale(15), selective, stamp(1, 2), blocks(4)), false}, {known(mss(65535), scale(14), selective, unstamped(1, 2), blocks(4)), false}, {known(mss(65535), scale(14), selective, stamp(1, 2), blocks(5)), false},
	} {
		if got := tcp.Right(c.k); got != c.want {
			t.Errorf("%d: %+v: %v", i, c.k, got)
		}
	}
}

// P8.4: what each option says, and those that say nothing.
func TestParse(t *testing.T) {
	stamped := []byte{8, 10, 1, 2, 3, 4, 0xf5, 0xf6, 0xf7, 0xf8}
	both := stamp(0x01020304, 0xf5f6f7f8)
	nops := func(n int) []byte { return bytes.Repeat([]byte{1}, n) }
	for i, c := range []struct {
		b    []byte
		want tcp.Known
	}{
		{nil, known()}, {[]byte{}, known()}, {[]byte{0}, known()}, {[]byte{1}, known()}, {make([]byte, 40), known()}, {nops(40), known()}, {[]byte{0, 2, 4}, known()}, {[]byte{0, 2}, known()}, {[]byte{0, 255, 255, 255}, known()}, {[]byte{1, 1, 0, 2, 4, 0, 0}, known()},
		{[]byte{2, 4, 5, 180, 1, 3, 3, 7}, known(mss(1460), scale(7))},
		{[]byte{2, 4, 0, 1}, known(mss(1))}, {[]byte{2, 4, 255, 255}, known(mss(65535))}, {[]byte{2, 4, 1, 0}, known(mss(256))}, {[]byte{2, 4, 5, 180, 0, 2, 4, 5, 180}, known(mss(1460))},
		{[]byte{3, 3, 0}, known(scale(0))}, {[]byte{3, 3, 1}, known(scale(1))}, {[]byte{3, 3, 14}, known(scale(14))}, {[]byte{4, 2}, known(selective)},
		{stamped, known(both)}, {[]byte{8, 10, 0, 0, 0, 0, 0, 0, 0, 0}, known(stamp(0, 0))}, {[]byte{8, 10, 0, 0, 0, 1, 0, 0, 0, 0}, known(stamp(1, 0))},
		{join([]byte{5, 10}, blockBytes(1)), known(blocks(1))}, {join([]byte{5, 18}, blockBytes(2)), known(blocks(2))}, {join([]byte{5, 26}, blockBytes(3)), known(blocks(3))}, {join([]byte{5, 34}, blockBytes(4)), known(blocks(4))}, {join([]byte{1, 1, 5, 34}, blockBytes(4), []byte{4, 2}), known(blocks(4), selective)}, {join([]byte{5, 10}, make([]byte, 8)), known(func(k *tcp.Known) { k.Blocks = make([][2]uint32, 1) })},
		{join([]byte{2, 4, 5, 180, 4, 2}, stamped, []byte{1, 3, 3, 7}), known(mss(1460), selective, both, scale(7))},
		{join(stamped, []byte{5, 18}, blockBytes(2), []byte{4, 2, 3, 3, 0, 2, 4, 0, 9}), known(both, blocks(2), selective, scale(0), mss(9))},
		{[]byte{6, 2, 7, 3, 9, 9, 4, 0, 0, 255, 2, 6, 2, 30, 2}, known()}, {[]byte{6, 6, 0, 0, 0, 0, 3, 3, 2}, known(scale(2))}, {join([]byte{255, 40}, make([]byte, 38)), known()}, {[]byte{254, 2, 254, 2, 254, 3, 2, 4, 2}, known(selective)},
		{join(nops(38), []byte{4, 2}), known(selective)}, {join(nops(36), []byte{2, 4, 0, 5}), known(mss(5))},
	} {
		if k, e := tcp.Parse(c.b); !sameKnown(k, c.want) || e != api.OK {
			t.Errorf("%d: % x: %+v, %d; want %+v", i, c.b, k, e, c.want)
		}
	}
}

// P8.4: each error at its limits; of what is too long nothing else is looked at.
func TestParseFails(t *testing.T) {
	stamped := []byte{8, 10, 0, 0, 0, 0, 0, 0, 0, 0}
	block := []byte{5, 10, 0, 0, 0, 0, 0, 0, 0, 0}
	for i, c := range []struct {
		b    []byte
		want api.Errno
	}{
		{make([]byte, 41), api.ErrLong}, {bytes.Repeat([]byte{1}, 41), api.ErrLong}, {bytes.Repeat([]byte{3}, 41), api.ErrLong}, {join([]byte{5, 42}, blockBytes(5)), api.ErrLong}, {make([]byte, 256), api.ErrLong}, {make([]byte, 70000), api.ErrLong},
		{[]byte{2}, tcp.ErrOption}, {[]byte{255}, tcp.ErrOption}, {[]byte{1, 1, 6}, tcp.ErrOption}, {[]byte{4, 2, 4}, tcp.ErrOption}, {append(bytes.Repeat([]byte{1}, 39), 4), tcp.ErrOption},
		{[]byte{6, 0}, tcp.ErrOption}, {[]byte{6, 1}, tcp.ErrOption}, {[]byte{255, 0, 0, 0}, tcp.ErrOption}, {[]byte{255, 1, 0, 0}, tcp.ErrOption}, {[]byte{2, 0, 5, 180}, tcp.ErrOption}, {[]byte{4, 0}, tcp.ErrOption}, {[]byte{4, 1}, tcp.ErrOption},
		{[]byte{6, 3}, tcp.ErrOption}, {[]byte{6, 4, 0}, tcp.ErrOption}, {[]byte{6, 255, 0}, tcp.ErrOption}, {[]byte{2, 4, 5}, tcp.ErrOption}, {[]byte{2, 4}, tcp.ErrOption}, {[]byte{3, 3}, tcp.ErrOption}, {stamped[:9], tcp.ErrOption}, {block[:9], tcp.ErrOption}, {join([]byte{255, 41}, make([]byte, 38)), tcp.ErrOption}, {[]byte{1, 6, 4, 0}, tcp.ErrOption},
		{[]byte{2, 3, 5, 180}, tcp.ErrOption}, {[]byte{2, 2}, tcp.ErrOption}, {[]byte{2, 5, 5, 180, 0}, tcp.ErrOption}, {[]byte{2, 6, 0, 0, 5, 180}, tcp.ErrOption}, {[]byte{2, 4, 0, 0}, tcp.ErrOption},
		{[]byte{3, 2}, tcp.ErrOption}, {[]byte{3, 4, 1, 0}, tcp.ErrOption}, {[]byte{3, 3, 15}, tcp.ErrOption}, {[]byte{3, 3, 16}, tcp.ErrOption}, {[]byte{3, 3, 128}, tcp.ErrOption}, {[]byte{3, 3, 255}, tcp.ErrOption},
		{[]byte{4, 3, 0}, tcp.ErrOption}, {[]byte{4, 4, 0, 0}, tcp.ErrOption},
		{[]byte{5, 2}, tcp.ErrOption}, {[]byte{5, 6, 0, 0, 0, 0}, tcp.ErrOption}, {[]byte{5, 9, 0, 0, 0, 0, 0, 0, 0, 0}, tcp.ErrOption}, {join([]byte{5, 11}, make([]byte, 9)), tcp.ErrOption}, {join([]byte{5, 14}, make([]byte, 12)), tcp.ErrOption}, {join([]byte{5, 33}, make([]byte, 32)), tcp.ErrOption}, {join([]byte{5, 35}, make([]byte, 34)), tcp.ErrOption}, {join([]byte{5, 38}, make([]byte, 36)), tcp.ErrOption}, {join([]byte{5, 40}, make([]byte, 38)), tcp.ErrOption},
		{[]byte{8, 2}, tcp.ErrOption}, {[]byte{8, 6, 0, 0, 0, 0}, tcp.ErrOption}, {[]byte{8, 9, 0, 0, 0, 0, 0, 0, 0, 0}, tcp.ErrOption}, {join([]byte{8, 11}, make([]byte, 9)), tcp.ErrOption}, {join([]byte{8, 18}, make([]byte, 16)), tcp.ErrOption},
		{[]byte{4, 2, 4, 2}, tcp.ErrOption}, {[]byte{2, 4, 0, 1, 2, 4, 0, 1}, tcp.ErrOption}, {[]byte{2, 4, 0, 1, 1, 3, 3, 0, 2, 4, 0, 2}, tcp.ErrOption}, {[]byte{3, 3, 0, 3, 3, 0}, tcp.ErrOption}, {[]byte{3, 3, 0, 1, 3, 3, 7}, tcp.ErrOption}, {join(stamped, stamped), tcp.ErrOption}, {join(stamped, block, stamped), tcp.ErrOption}, {join(block, block), tcp.ErrOption}, {join(block, []byte{4, 2}, block), tcp.ErrOption},
		{[]byte{2, 4, 0, 1, 3, 3, 2, 6}, tcp.ErrOption}, {join(block, stamped, []byte{3, 3, 15}), tcp.ErrOption},
	} {
		if k, e := tcp.Parse(c.b); !sameKnown(k, tcp.Known{}) || e != c.want {
			t.Errorf("%d: % x: %+v, %d; want %d", i, c.b, k, e, c.want)
		}
	}
}

// parsedBy is the definition: the places of all options before the end are found first, and then those of each kind are looked at.
func parsedBy(b []byte) (tcp.Known, api.Errno) {
	if len(b) > 40 {
		return tcp.Known{}, api.ErrLong
	}
	all := map[byte][][]byte{}
	for at := 0; at < len(b) && b[at] != 0; {
		if b[at] == 1 {
			at++
			continue
		}
		if at+1 == len(b) || b[at+1] < 2 || at+int(b[at+1]) > len(b) {
			return tcp.Known{}, tcp.ErrOption
		}
		all[b[at]] = append(all[b[at]], b[at:at+int(b[at+1])])
		at += int(b[at+1])
	}
	k := known()
	for kind, lengths := range map[byte][]int{2: {4}, 3: {3}, 4: {2}, 5: {10, 18, 26, 34}, 8: {10}} {
		if len(all[kind]) == 0 {
			continue
		}
		o := all[kind][0]
		if len(all[kind]) > 1 || !slices.Contains(lengths, len(o)) {
			return tcp.Known{}, tcp.ErrOption
		}
		numbers := func(at int) [2]uint32 {
			n := [2]uint32{}
			for i := range 8 {
				n[i/4] = n[i/4]<<8 | uint32(o[at+i])
			}
			return n
		}
		switch kind {
		case 2:
			k.MSS = int(o[2])*256 + int(o[3])
		case 3:
			k.Scale = int(o[2])
		case 4:
			k.Selective = true
		case 5:
			for at := 2; at < len(o); at += 8 {
				k.Blocks = append(k.Blocks, numbers(at))
			}
		case 8:
			k.Stamped = true
			k.Stamp, k.Echo = numbers(2)[0], numbers(2)[1]
		}
		if kind == 2 && k.MSS == 0 || k.Scale > 14 {
			return tcp.Known{}, tcp.ErrOption
		}
	}
	return k, api.OK
}

// P8.4: pseudo-random bytes, and those that look like options. What is parsed is right.
func TestParseByDefinition(t *testing.T) {
	check := func(b []byte) bool {
		k, e := tcp.Parse(b)
		want, wantE := parsedBy(b)
		if e != wantE || !sameKnown(k, want) || e == api.OK && !tcp.Right(k) {
			t.Fatalf("% x: %+v, %d; want %+v, %d", b, k, e, want, wantE)
		}
		return e == api.OK
	}
	next := generator(3)
	parsed := 0
	for i := range 200000 {
		b := make([]byte, i%44)
		for j := range b {
			b[j] = byte(next(256))
		}
		check(b)
		lengths := map[byte]int{2: 4, 3: 3, 4: 2, 5: 10 + 8*next(4), 8: 10, 6: 2 + next(9), 1: 1}
		for at := 0; at < len(b); { // options that are right, but for a few
			b[at] = []byte{1, 2, 3, 4, 5, 6, 8}[next(7)]
			n := lengths[b[at]]
			if at+1 < len(b) && b[at] != 1 {
				b[at+1] = byte(n)
			}
			if at+2 < len(b) && b[at] == 3 {
				b[at+2] %= 16
			}
			at += n
		}
		if check(b) {
			parsed++
		}
		if len(b) > 0 {
			b[next(len(b))] = byte(next(12))
			check(b)
		}
	}
	if parsed < 5000 {
		t.Errorf("only %d were parsed", parsed)
	}
}
