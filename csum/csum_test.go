package csum_test

import (
	"bytes"
	"math"
	"slices"
	"testing"

	"baffle/api"
	"baffle/csum"
)

// samples are bytes of all kinds: none, odd, zeros, sums at and around what is folded.
func samples() [][]byte {
	l := [][]byte{
		nil, {0}, {0, 0}, {0, 0, 0}, {1}, {255}, {0, 1}, {1, 2}, {1, 2, 3}, {1, 2, 3, 4},
		{255, 255}, {255, 254}, {255, 254, 0, 1}, {255, 255, 0, 1}, {255, 255, 255}, {255, 255, 255, 255}, {0, 1, 255, 255, 255},
		{69, 0, 0, 0, 0, 0}, {69, 0, 186, 255, 0, 0}, {128, 0, 127, 255}, {128, 0, 128, 0},
		bytes.Repeat([]byte{255}, 65535), bytes.Repeat([]byte{255}, 1<<18), bytes.Repeat([]byte{0}, 999),
	}
	n := uint32(1)
	for size := range 70 {
		b := make([]byte, size)
		for i := range b {
			n = n*1664525 + 1013904223
			b[i] = byte(n >> 24)
		}
		l = append(l, b)
	}
	return l
}

// sum is the sum of bytes, carry by carry.
func sum(b []byte) uint16 {
	s := 0
	for i, c := range b {
		s += int(c) << (8 - i%2*8)
		for s > 65535 {
			s -= 65535
		}
	}
	return uint16(s)
}

// P2.1: the sum is that of the words, the upper byte first, folded; the checksum is what is missing.
func TestSums(t *testing.T) {
	for _, c := range []struct {
		b    []byte
		want uint16
	}{
		{nil, 0}, {[]byte{}, 0}, {[]byte{0}, 0}, {[]byte{0, 0}, 0}, {make([]byte, 1001), 0},
		{[]byte{1}, 256}, {[]byte{1, 2}, 258}, {[]byte{1, 2, 3}, 1026}, {[]byte{1, 2, 3, 4}, 1030},
		{[]byte{255, 255}, 65535}, {[]byte{255, 254, 0, 1}, 65535}, {[]byte{255, 255, 0, 1}, 1}, {[]byte{255, 255, 255, 255}, 65535},
		{[]byte{255, 255, 0, 0}, 65535}, {[]byte{128, 0, 128}, 1}, {[]byte{255, 255, 255}, 65280},
	} {
		if s := csum.Sum(c.b); s != c.want {
			t.Errorf("Sum of % x: %d, want %d", c.b, s, c.want)
		}
	}
	for _, b := range samples() {
		s := sum(b)
		if got := csum.Sum(b); got != s {
			t.Errorf("Sum of %d bytes: %d, want %d", len(b), got, s)
		}
		if got := csum.Of(b); got != 65535-s {
			t.Errorf("Of %d bytes: %d, want %d", len(b), got, 65535-s)
		}
		if got := csum.Right(b); got != (s == 65535) {
			t.Errorf("Right of %d bytes: %v, though the sum is %d", len(b), got, s)
		}
	}
}

// P2.1: 0 and 65535 are not the same: only bytes that are all 0 have the sum 0.
func TestRight(t *testing.T) {
	for _, b := range [][]byte{nil, {0}, {0, 0}, {255}, {255, 254}, {255, 255, 0, 1}, {0, 255, 254}} {
		if csum.Right(b) {
			t.Errorf("% x", b)
		}
	}
	for _, b := range [][]byte{{255, 255}, {255, 255, 0}, {255, 254, 0, 1}, {255, 255, 255, 255}, {254, 255, 1}, {0, 255, 255}, {69, 0, 186, 255, 0, 0}} {
		if !csum.Right(b) {
			t.Errorf("% x", b)
		}
	}
}

// P2.1: Join adds up and folds as many numbers as there are.
func TestJoin(t *testing.T) {
	for _, c := range []struct {
		l    []uint16
		want uint16
	}{
		{nil, 0}, {[]uint16{0}, 0}, {[]uint16{0, 0, 0}, 0}, {[]uint16{1}, 1}, {[]uint16{258, 772}, 1030},
		{[]uint16{65535}, 65535}, {[]uint16{65535, 0}, 65535}, {[]uint16{65535, 1}, 1}, {[]uint16{65535, 65535}, 65535},
		{[]uint16{65534, 1}, 65535}, {[]uint16{65534, 2}, 1}, {[]uint16{40000, 40000, 40000}, 54465},
		{slices.Repeat([]uint16{65535}, 70000), 65535}, {append(slices.Repeat([]uint16{65535}, 70000), 7), 7},
	} {
		given := slices.Clone(c.l)
		if s := csum.Join(c.l...); s != c.want || !slices.Equal(c.l, given) {
			t.Errorf("Join of %d numbers: %d, want %d", len(c.l), s, c.want)
		}
	}
	if s := csum.Join(); s != 0 {
		t.Error(s)
	}
}

// P2.2: the checksum is put where it belongs, whatever was there.
func TestFix(t *testing.T) {
	for _, c := range []struct {
		b    []byte
		at   int
		want []byte
	}{
		{[]byte{69, 0, 0, 0, 0, 0}, 2, []byte{69, 0, 186, 255, 0, 0}},
		{[]byte{69, 0, 7, 9, 0, 0}, 2, []byte{69, 0, 186, 255, 0, 0}},
		{[]byte{0, 0, 1, 2}, 0, []byte{254, 253, 1, 2}},
		{[]byte{1, 2, 8, 9}, 2, []byte{1, 2, 254, 253}},
		{[]byte{1, 2, 8, 9, 3}, 2, []byte{1, 2, 251, 253, 3}},
		{[]byte{5, 6}, 0, []byte{255, 255}},
		{[]byte{0, 0, 5, 6, 0}, 2, []byte{0, 0, 255, 255, 0}},
		{[]byte{255, 255, 5, 6}, 2, []byte{255, 255, 0, 0}},
	} {
		if b, e := csum.Fix(c.b, c.at); !bytes.Equal(b, c.want) || e != api.OK {
			t.Errorf("Fix(% x, %d): % x, %d; want % x", c.b, c.at, b, e, c.want)
		}
	}
	for _, b := range samples() {
		for at := 0; at+2 <= len(b) && at < 80; at += 2 {
			zero := slices.Clone(b)
			zero[at], zero[at+1] = 0, 0
			check := 65535 - sum(zero)
			zero[at], zero[at+1] = byte(check>>8), byte(check)
			if got, e := csum.Fix(b, at); !bytes.Equal(got, zero) || e != api.OK {
				t.Fatalf("Fix of %d bytes, %d: %d", len(b), at, e)
			}
		}
	}
}

// P2.2: there is no room before 0, in the middle of words, or at the end.
func TestFixFails(t *testing.T) {
	for _, c := range []struct{ size, at int }{
		{0, 0}, {1, 0}, {0, -2}, {6, -2}, {6, -1}, {6, 1}, {6, 3}, {6, 5}, {6, 6}, {6, 8}, {7, 6}, {7, 5}, {0, -1},
		{6, math.MinInt}, {6, math.MaxInt}, {6, math.MaxInt - 1}, {6, math.MinInt + 1},
	} {
		if b, e := csum.Fix(make([]byte, c.size), c.at); len(b) != 0 || e != api.ErrArg {
			t.Errorf("Fix of %d bytes, %d: % x, %d", c.size, c.at, b, e)
		}
	}
}

// P2.2: neither the argument nor its spare capacity is touched, and the result is new memory.
func TestFixShares(t *testing.T) {
	given := []byte{1, 2, 3, 4, 5, 6, 7, 8}
	b, _ := csum.Fix(given[:4], 2)
	if !bytes.Equal(given, []byte{1, 2, 3, 4, 5, 6, 7, 8}) {
		t.Error(given)
	}
	b[0] = 9
	_ = append(b, 9)
	given[1] = 7
	if !bytes.Equal(given, []byte{1, 7, 3, 4, 5, 6, 7, 8}) || b[1] != 2 {
		t.Error(given, b)
	}
}

// P2.3: a checksum is updated by what it loses and by what it gets.
func TestUpdate(t *testing.T) {
	for _, c := range []struct{ check, old, new, want uint16 }{
		{64505, 258, 259, 64504}, {64505, 258, 258, 64505}, {65277, 258, 0, 0},
		{0, 0, 0, 0}, {65535, 0, 0, 0}, {65535, 65535, 0, 65535}, {0, 65535, 65535, 0},
		{65535, 65535, 1, 65534}, {0, 0, 65535, 0}, {1, 2, 3, 0}, {1, 3, 2, 2},
		{1, 2, 4, 65534}, {40000, 50000, 60000, 30000}, {40000, 60000, 50000, 50000},
	} {
		if v := csum.Update(c.check, c.old, c.new); v != c.want {
			t.Errorf("Update(%d, %d, %d): %d, want %d", c.check, c.old, c.new, v, c.want)
		}
	}
}

// numbers are 16 bits at which something may change.
func numbers() []uint16 {
	return []uint16{0, 1, 2, 255, 256, 257, 0x7fff, 0x8000, 0x8001, 12345, 54321, 0xfffe, 0xffff}
}

// P2.3: any three numbers give 65535 less the folded sum.
func TestUpdateByDefinition(t *testing.T) {
	for _, check := range numbers() {
		for _, old := range numbers() {
			for _, new := range numbers() {
				s := 65535 - int(check) + 65535 - int(old) + int(new)
				if s > 0 {
					s = 1 + (s-1)%65535
				}
				if v := csum.Update(check, old, new); int(v) != 65535-s {
					t.Fatalf("Update(%d, %d, %d): %d, want %d", check, old, new, v, 65535-s)
				}
			}
		}
	}
}

// P2.3: 32 bits are two words, the upper one first.
func TestUpdate32(t *testing.T) {
	for _, c := range []struct {
		check    uint16
		old, new uint32
		want     uint16
	}{
		{64505, 0x01020304, 0x01020304, 64505}, {64505, 0x01020304, 0x01020305, 64504}, {64505, 0x01020304, 0x01030304, 64504},
		{64505, 0x01020304, 0, 0}, {65535, 0xffffffff, 0, 65535}, {65535, 0xffff0000, 0, 0}, {65535, 0xffff, 0, 0},
		{65535, 0xffff, 0x10000, 65534}, {0, 0x0a000001, 0xc0a80101, 18519},
	} {
		if v := csum.Update32(c.check, c.old, c.new); v != c.want {
			t.Errorf("Update32(%d, %x, %x): %d, want %d", c.check, c.old, c.new, v, c.want)
		}
	}
	for _, check := range numbers() {
		for _, a := range numbers() {
			for _, b := range numbers() {
				old, new := uint32(a)<<16|uint32(b), uint32(b^0x5a5a)<<16|uint32(a^0xff)
				want := csum.Update(csum.Update(check, a, b^0x5a5a), b, a^0xff)
				if v := csum.Update32(check, old, new); v != want {
					t.Fatalf("Update32(%d, %x, %x): %d, want %d", check, old, new, v, want)
				}
			}
		}
	}
}

// P2.4: the pseudo header has six words, and a length of 16 bits.
func TestPseudo(t *testing.T) {
	for _, c := range []struct {
		src, dst uint32
		proto    uint8
		length   int
		want     uint16
	}{
		{167772161, 167772162, 17, 8, 5148}, {0, 0, 0, 0, 0}, {0x10000, 0, 0, 0, 1}, {2, 0, 0, 0, 2}, {0, 0x30000, 0, 0, 3}, {0, 4, 0, 0, 4},
		{0, 0, 255, 0, 255}, {0, 0, 0, 65535, 65535}, {0, 0, 1, 65535, 1}, {0xffffffff, 0xffffffff, 255, 65535, 255},
		{0xfffe0000, 0, 1, 0, 65535}, {0xc0a80001, 0x08080808, 6, 40, 53479},
	} {
		if s, e := csum.Pseudo(c.src, c.dst, c.proto, c.length); s != c.want || e != api.OK {
			t.Errorf("Pseudo(%x, %x, %d, %d): %d, %d; want %d", c.src, c.dst, c.proto, c.length, s, e, c.want)
		}
	}
	for _, length := range []int{-1, 65536, 65537, 1 << 32, math.MinInt, math.MaxInt} {
		if s, e := csum.Pseudo(1, 2, 3, length); s != 0 || e != api.ErrArg {
			t.Errorf("Pseudo with %d: %d, %d", length, s, e)
		}
	}
}

// P2.4: the checksum over a pseudo header is that of its bytes and the others.
func TestOver(t *testing.T) {
	for _, c := range []struct {
		pseudo uint16
		b      []byte
		want   uint16
	}{
		{0, nil, 65535}, {0, []byte{0, 0}, 65535}, {5148, nil, 60387}, {5148, []byte{0, 8}, 60379}, {65535, nil, 0}, {65535, []byte{0, 1}, 65534},
		{65534, []byte{0, 1}, 0}, {0, []byte{255, 255}, 0}, {65535, []byte{255, 255}, 0}, {1, []byte{1, 2, 3}, 64508},
	} {
		if v := csum.Over(c.pseudo, c.b); v != c.want {
			t.Errorf("Over(%d, % x): %d, want %d", c.pseudo, c.b, v, c.want)
		}
	}
	head := []byte{10, 0, 0, 1, 192, 168, 255, 254, 0, 17, 0, 0}
	for _, b := range samples() {
		if len(b) > 65535 {
			continue
		}
		head[10], head[11] = byte(len(b)>>8), byte(len(b))
		pseudo, _ := csum.Pseudo(0x0a000001, 0xc0a8fffe, 17, len(b))
		if v, want := csum.Over(pseudo, b), csum.Of(slices.Concat(head, b)); v != want {
			t.Errorf("Over %d bytes: %d, want %d", len(b), v, want)
		}
	}
}

// P2.4: only 0 is replaced.
func TestNever(t *testing.T) {
	for check := range 65536 {
		want := max(1, check)
		if check == 0 {
			want = 65535
		}
		if v := csum.Never(uint16(check)); int(v) != want {
			t.Errorf("Never(%d): %d", check, v)
		}
	}
}

// P2.5: fixed bytes are right, and a changed word makes them wrong, but for 0 and 65535.
func TestFixedAreRight(t *testing.T) {
	for _, b := range samples() {
		if len(b) < 2 || len(b) > 80 {
			continue
		}
		at := len(b) / 4 * 2
		at = min(at, len(b)/2*2-2)
		fixed, e := csum.Fix(b, at)
		if e != api.OK || !csum.Right(fixed) {
			t.Fatalf("% x, %d", fixed, e)
		}
		for i := 0; i+2 <= len(fixed); i += 2 {
			was := uint16(fixed[i])<<8 | uint16(fixed[i+1])
			for _, word := range append(numbers(), was+1, was-1, was^0x8000) {
				changed := slices.Clone(fixed)
				changed[i], changed[i+1] = byte(word>>8), byte(word)
				right := word%65535 == was%65535 && slices.Max(changed) > 0
				if csum.Right(changed) != right {
					t.Fatalf("% x: word %d was %d", changed, i/2, was)
				}
			}
		}
	}
}

// P2.5: words may be exchanged, and bytes put together.
func TestOrder(t *testing.T) {
	for _, b := range samples() {
		if len(b) > 80 {
			continue
		}
		turned := slices.Clone(b)
		last := len(b)/2*2 - 2
		for i := 0; i <= last; i += 2 {
			turned[i], turned[i+1] = b[last-i], b[last-i+1]
		}
		if csum.Sum(turned) != csum.Sum(b) {
			t.Errorf("% x", b)
		}
		for cut := 0; cut <= len(b); cut += 2 {
			if s := csum.Join(csum.Sum(b[:cut]), csum.Sum(b[cut:])); s != csum.Sum(b) {
				t.Errorf("% x at %d: %d", b, cut, s)
			}
		}
	}
}

// P2.5: an updated checksum is that of the new bytes, unless these are all 0.
func TestUpdateIsOf(t *testing.T) {
	for _, b := range samples() {
		if len(b) < 2 || len(b) > 80 {
			continue
		}
		check := csum.Of(b)
		for i := 0; i+2 <= len(b); i += 2 {
			old := uint16(b[i])<<8 | uint16(b[i+1])
			for _, new := range numbers() {
				changed := slices.Clone(b)
				changed[i], changed[i+1] = byte(new>>8), byte(new)
				want := csum.Of(changed)
				if want == 65535 {
					want = 0 // all are 0: then the sum that is left is 65535
					if csum.Sum(b) == 0 {
						continue
					}
				}
				if v := csum.Update(check, old, new); v != want {
					t.Fatalf("% x with %d at %d: %d, want %d", b, new, i, v, want)
				}
			}
		}
	}
}
