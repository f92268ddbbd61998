package addr_test

import (
	"math"
	"slices"
	"testing"

	"baffle/addr"
	"baffle/api"
)

// bit returns bit i of an address, the upper one first.
func bit(a uint32, i int) uint32 { return a >> (31 - i) & 1 }

// right is what makes a prefix right, bit by bit.
func right(p api.Prefix) bool {
	for i := int(p.Len); i < 32; i++ {
		if bit(p.Addr, i) != 0 {
			return false
		}
	}
	return p.Len <= 32
}

// has is what makes a right prefix have an address, bit by bit.
func has(p api.Prefix, a uint32) bool {
	for i := range min(int(p.Len), 32) {
		if bit(p.Addr, i) != bit(a, i) {
			return false
		}
	}
	return right(p)
}

// prefixes are right ones and others of all lengths, for each of some addresses.
func prefixes() []api.Prefix {
	var l []api.Prefix
	for _, a := range addresses() {
		for n := range 40 {
			cut := a
			if n < 32 {
				cut = a >> (32 - n) << (32 - n)
			}
			l = append(l, api.Prefix{Addr: a, Len: uint8(n)}, api.Prefix{Addr: cut, Len: uint8(n)})
		}
		l = append(l, api.Prefix{Addr: a, Len: 64}, api.Prefix{Addr: a, Len: 128}, api.Prefix{Addr: a, Len: 255})
	}
	return l
}

// P3.2: a prefix is right if its length is one, and nothing follows it.
func TestRight(t *testing.T) {
	for _, c := range []struct {
		p    api.Prefix
		want bool
	}{
		{api.Prefix{}, true}, {api.Prefix{Addr: address(10, 0, 0, 0), Len: 8}, true}, {api.Prefix{Addr: address(10, 0, 0, 0), Len: 7}, true},
		{api.Prefix{Addr: address(10, 0, 0, 0), Len: 6}, false}, {api.Prefix{Addr: address(10, 0, 0, 1), Len: 8}, false}, {api.Prefix{Addr: address(10, 0, 0, 1), Len: 32}, true},
		{api.Prefix{Addr: address(10, 0, 0, 1), Len: 31}, false}, {api.Prefix{Addr: 1, Len: 0}, false}, {api.Prefix{Addr: 1 << 31, Len: 0}, false}, {api.Prefix{Addr: 1 << 31, Len: 1}, true},
		{api.Prefix{Addr: 0, Len: 32}, true}, {api.Prefix{Addr: 0, Len: 33}, false}, {api.Prefix{Addr: 0, Len: 64}, false}, {api.Prefix{Addr: 0, Len: 255}, false}, {api.Prefix{Addr: math.MaxUint32, Len: 32}, true},
	} {
		if got := addr.Right(c.p); got != c.want {
			t.Errorf("Right of %v: %v", c.p, got)
		}
	}
	for _, p := range prefixes() {
		if got := addr.Right(p); got != right(p) {
			t.Errorf("Right of %v: %v", p, got)
		}
	}
}

// P3.2: a mask has its first bits, up to all of them.
func TestMask(t *testing.T) {
	for n, want := range map[uint8]uint32{0: 0, 1: 1 << 31, 2: 3 << 30, 8: 0xff000000, 16: 0xffff0000, 24: 0xffffff00, 31: 0xfffffffe, 32: 0xffffffff, 33: 0xffffffff, 255: 0xffffffff} {
		if got := addr.Mask(n); got != want {
			t.Errorf("Mask(%d): %x", n, got)
		}
	}
	for n := range 256 {
		m := addr.Mask(uint8(n))
		for i := range 32 {
			if (bit(m, i) == 1) != (i < n) {
				t.Errorf("Mask(%d): %x", n, m)
			}
		}
	}
}

// P3.2: the prefix of an address is right and has it, up to 32 bits.
func TestCut(t *testing.T) {
	for _, c := range []struct {
		a, want uint32
		n       uint8
	}{
		{address(10, 1, 2, 3), address(10, 0, 0, 0), 8}, {address(10, 1, 2, 3), address(10, 1, 2, 3), 32}, {address(10, 1, 2, 3), address(10, 1, 2, 2), 31},
		{address(10, 1, 2, 3), 0, 0}, {math.MaxUint32, 0, 0}, {math.MaxUint32, 1 << 31, 1}, {math.MaxUint32, math.MaxUint32, 32},
	} {
		got, e := addr.Cut(c.a, c.n)
		same(t, c, got, e, api.Prefix{Addr: c.want, Len: c.n}, api.OK)
	}
	for _, a := range addresses() {
		for n := range 256 {
			p, e := addr.Cut(a, uint8(n))
			if n > 32 {
				same(t, n, p, e, api.Prefix{}, api.ErrArg)
			} else if e != api.OK || int(p.Len) != n || !right(p) || !has(p, a) {
				t.Errorf("Cut(%x, %d): %v, %d", a, n, p, e)
			}
		}
	}
}

// P3.2: the text of a right prefix is written, and read back.
func TestPrefixTexts(t *testing.T) {
	for want, p := range map[string]api.Prefix{
		"10.0.0.0/8": {Addr: address(10, 0, 0, 0), Len: 8}, "0.0.0.0/0": {}, "0.0.0.0/32": {Len: 32}, "255.255.255.255/32": {Addr: math.MaxUint32, Len: 32},
		"128.0.0.0/1": {Addr: 1 << 31, Len: 1}, "10.1.2.0/24": {Addr: address(10, 1, 2, 0), Len: 24}, "10.1.2.4/30": {Addr: address(10, 1, 2, 4), Len: 30}, "10.0.0.0/9": {Addr: address(10, 0, 0, 0), Len: 9},
	} {
		s, e := addr.PrefixText(p)
		text(t, p, s, e, want, api.OK)
		back, e := addr.ReadPrefix(want)
		same(t, want, back, e, p, api.OK)
	}
	for _, p := range []api.Prefix{{Addr: 1, Len: 31}, {Addr: 1, Len: 0}, {Addr: address(10, 0, 0, 1), Len: 8}, {Len: 33}, {Len: 255}, {Addr: math.MaxUint32, Len: 33}} {
		s, e := addr.PrefixText(p)
		text(t, p, s, e, "", addr.ErrPrefix)
	}
}

// P3.2: a string that is the text of no right prefix is none.
func TestNoPrefixTexts(t *testing.T) {
	bad := []string{
		"", "/", "10.0.0.1/8", "10.0.0.0/33", "10.0.0.0", "10.0.0.0/", "/8", "10.0.0.0/08", "10.0.0.0/00", "10.0.0.0/8/", "10.0.0.0/8/8", "10.0.0.0//8", "10.0.0/8", "10.0.0.0.0/8", "10.0.0.00/8",
		"10.0.0.0/-8", "10.0.0.0/+8", "10.0.0.0/8 ", " 10.0.0.0/8", "10.0.0.0 /8", "10.0.0.0/ 8", "10.0.0.0/255", "10.0.0.0/256", "10.0.0.0/264", "10.0.0.0/32.", "0.0.0.1/0", "128.0.0.0/0", "255.255.255.255/31", "10.0.0.0/255.0.0.0", "*", "10.0.0.0/*",
	}
	for _, n := range noNumbers() {
		bad = append(bad, n, "0.0.0.0/"+n, n+"/0", "0.0.0."+n+"/32")
	}
	for _, s := range bad {
		got, e := addr.ReadPrefix(s)
		same(t, s, got, e, api.Prefix{}, addr.ErrText)
	}
}

// P3.3: a right prefix has the addresses that begin like it, and another one has none.
func TestHas(t *testing.T) {
	ten := api.Prefix{Addr: address(10, 0, 0, 0), Len: 8}
	for a, want := range map[uint32]bool{
		address(10, 0, 0, 0): true, address(10, 255, 255, 255): true, address(10, 1, 2, 3): true, address(9, 255, 255, 255): false, address(11, 0, 0, 0): false, 0: false, math.MaxUint32: false,
	} {
		if got := addr.Has(ten, a); got != want {
			t.Errorf("%x: %v", a, got)
		}
	}
	for _, p := range prefixes() {
		for _, a := range addresses() {
			if got := addr.Has(p, a); got != has(p, a) {
				t.Errorf("Has(%v, %x): %v", p, a, got)
			}
		}
	}
}

// P3.3: the bounds are the first and the last address of a right prefix.
func TestBounds(t *testing.T) {
	for _, c := range []struct {
		p        api.Prefix
		from, to uint32
	}{
		{api.Prefix{Addr: address(10, 0, 0, 0), Len: 8}, address(10, 0, 0, 0), address(10, 255, 255, 255)}, {api.Prefix{}, 0, math.MaxUint32}, {api.Prefix{Addr: 7, Len: 32}, 7, 7},
		{api.Prefix{Addr: 6, Len: 31}, 6, 7}, {api.Prefix{Addr: 1 << 31, Len: 1}, 1 << 31, math.MaxUint32}, {api.Prefix{Addr: math.MaxUint32, Len: 32}, math.MaxUint32, math.MaxUint32},
	} {
		if from, to, e := addr.Bounds(c.p); from != c.from || to != c.to || e != api.OK {
			t.Errorf("Bounds of %v: %x, %x, %d", c.p, from, to, e)
		}
	}
	for _, p := range prefixes() {
		from, to, e := addr.Bounds(p)
		if !right(p) {
			if from != 0 || to != 0 || e != addr.ErrPrefix {
				t.Errorf("Bounds of %v: %x, %x, %d", p, from, to, e)
			}
			continue
		}
		size := uint64(1) << (32 - p.Len)
		if e != api.OK || from != p.Addr || uint64(to)-uint64(from) != size-1 || !has(p, from) || !has(p, to) {
			t.Errorf("Bounds of %v: %x, %x, %d", p, from, to, e)
		}
	}
}

// P3.3: whether one is inside another one, or they meet, is asked of right ones alone.
func TestInsideAndMeet(t *testing.T) {
	ten, one, other, all := api.Prefix{Addr: address(10, 0, 0, 0), Len: 8}, api.Prefix{Addr: address(10, 1, 0, 0), Len: 16}, api.Prefix{Addr: address(11, 0, 0, 0), Len: 8}, api.Prefix{}
	wrong, long := api.Prefix{Addr: address(10, 0, 0, 1), Len: 8}, api.Prefix{Addr: address(10, 0, 0, 0), Len: 33}
	for i, c := range []struct {
		p, q         api.Prefix
		inside, meet bool
	}{
		{ten, all, true, true}, {all, ten, false, true}, {one, ten, true, true}, {ten, one, false, true}, {ten, ten, true, true}, {all, all, true, true},
		{ten, other, false, false}, {other, ten, false, false}, {one, other, false, false},
		{wrong, all, false, false}, {all, wrong, false, false}, {wrong, wrong, false, false}, {wrong, ten, false, false}, {one, wrong, false, false},
		{long, all, false, false}, {all, long, false, false}, {long, ten, false, false}, {long, long, false, false},
	} {
		if got := addr.Inside(c.p, c.q); got != c.inside {
			t.Errorf("%d: Inside(%v, %v): %v", i, c.p, c.q, got)
		}
		if got := addr.Meet(c.p, c.q); got != c.meet {
			t.Errorf("%d: Meet(%v, %v): %v", i, c.p, c.q, got)
		}
	}
}

// bounds returns the first and the last address of a right prefix.
func bounds(p api.Prefix) (uint64, uint64) {
	return uint64(p.Addr), uint64(p.Addr) + 1<<(32-p.Len) - 1
}

// P3.3, P3.7: of two right prefixes one is inside the other one, or they have nothing in common.
func TestNested(t *testing.T) {
	for _, p := range prefixes() {
		for _, q := range prefixes() {
			inside, around, meet := false, false, false
			if right(p) && right(q) {
				a, b := bounds(p)
				c, d := bounds(q)
				inside, around, meet = c <= a && b <= d, a <= c && d <= b, a <= d && c <= b
			}
			if addr.Inside(p, q) != inside || addr.Inside(q, p) != around || addr.Meet(p, q) != meet {
				t.Fatalf("%v, %v: %v, %v, %v", p, q, addr.Inside(p, q), addr.Inside(q, p), addr.Meet(p, q))
			}
			if meet != (inside || around) {
				t.Fatalf("%v, %v", p, q)
			}
		}
	}
}

// P3.4: a range is covered by the prefixes that are named here.
func TestCover(t *testing.T) {
	const top = math.MaxUint32
	for _, c := range []struct {
		from, to uint32
		want     []api.Prefix
	}{
		{address(10, 0, 0, 1), address(10, 0, 0, 6), []api.Prefix{{Addr: address(10, 0, 0, 1), Len: 32}, {Addr: address(10, 0, 0, 2), Len: 31}, {Addr: address(10, 0, 0, 4), Len: 31}, {Addr: address(10, 0, 0, 6), Len: 32}}},
		{0, top, []api.Prefix{{}}}, {0, 0, []api.Prefix{{Len: 32}}}, {top, top, []api.Prefix{{Addr: top, Len: 32}}}, {7, 7, []api.Prefix{{Addr: 7, Len: 32}}},
		{0, 1, []api.Prefix{{Len: 31}}}, {1, 2, []api.Prefix{{Addr: 1, Len: 32}, {Addr: 2, Len: 32}}}, {top - 1, top, []api.Prefix{{Addr: top - 1, Len: 31}}}, {top - 2, top, []api.Prefix{{Addr: top - 2, Len: 32}, {Addr: top - 1, Len: 31}}},
		{0, 1<<31 - 1, []api.Prefix{{Len: 1}}}, {1 << 31, top, []api.Prefix{{Addr: 1 << 31, Len: 1}}}, {1<<31 - 1, 1 << 31, []api.Prefix{{Addr: 1<<31 - 1, Len: 32}, {Addr: 1 << 31, Len: 32}}},
		{address(10, 0, 0, 0), address(10, 255, 255, 255), []api.Prefix{{Addr: address(10, 0, 0, 0), Len: 8}}}, {0, 2, []api.Prefix{{Len: 31}, {Addr: 2, Len: 32}}},
	} {
		if got, e := addr.Cover(c.from, c.to); !slices.Equal(got, c.want) || e != api.OK {
			t.Errorf("Cover(%x, %x): %v, %d; want %v", c.from, c.to, got, e, c.want)
		}
	}
	for _, c := range [][2]uint32{{1, 0}, {top, 0}, {top, top - 1}, {address(10, 0, 0, 6), address(10, 0, 0, 1)}} {
		if got, e := addr.Cover(c[0], c[1]); len(got) != 0 || e != api.ErrArg {
			t.Errorf("Cover(%x, %x): %v, %d", c[0], c[1], got, e)
		}
	}
}

// covers checks that the prefixes are right, and follow one another from one address to the other.
func covers(t *testing.T, l []api.Prefix, from, to uint32) {
	t.Helper()
	next := uint64(from)
	for _, p := range l {
		if !right(p) || uint64(p.Addr) != next {
			t.Fatalf("%x to %x: %v in %v", from, to, p, l)
		}
		_, end := bounds(p)
		next = end + 1
	}
	if next != uint64(to)+1 {
		t.Fatalf("%x to %x: %v", from, to, l)
	}
}

// fewest returns how many right prefixes are needed from an address to a later one, by trying all that may come first.
func fewest(from, to uint32) []int {
	size := int(to-from) + 1
	need := make([]int, size+1) // need[i] is for the last i addresses
	for i := 1; i <= size; i++ {
		first := uint64(to) + 1 - uint64(i)
		need[i] = need[i-1] + 1
		for n := 1; n <= i; n *= 2 {
			if first%uint64(n) == 0 {
				need[i] = min(need[i], need[i-n]+1)
			}
		}
	}
	return need
}

// P3.4: the prefixes have just the addresses of the range, and are as few as there can be.
func TestCoverFew(t *testing.T) {
	const size = 130
	for _, begin := range []uint32{0, address(10, 0, 0, 0) - 50, 1<<31 - 70, math.MaxUint32 - size} {
		for to := begin; to-begin <= size; to++ {
			need := fewest(begin, to)
			for from := begin; ; from++ {
				l, e := addr.Cover(from, to)
				covers(t, l, from, to)
				if e != api.OK || len(l) != need[to-from+1] {
					t.Fatalf("%x to %x: %d prefixes, %d", from, to, len(l), e)
				}
				if from == to {
					break
				}
			}
			if to == math.MaxUint32 {
				break
			}
		}
	}
}

// P3.7: there are at most 62 prefixes, and there may be that many.
func TestCoverMost(t *testing.T) {
	l, e := addr.Cover(1, math.MaxUint32-1)
	covers(t, l, 1, math.MaxUint32-1)
	if len(l) != 62 || e != api.OK {
		t.Error(len(l), e)
	}
	for _, from := range addresses() {
		for _, to := range addresses() {
			if from > to {
				continue
			}
			l, e := addr.Cover(from, to)
			covers(t, l, from, to)
			if len(l) > 62 || e != api.OK {
				t.Errorf("%x to %x: %d prefixes, %d", from, to, len(l), e)
			}
		}
	}
}

// P3.4: each result is new memory.
func TestCoverShares(t *testing.T) {
	first, _ := addr.Cover(1, 6)
	first[0] = api.Prefix{Addr: 9, Len: 9}
	_ = append(first[:1], first[0])
	if again, _ := addr.Cover(1, 6); !slices.Equal(again, []api.Prefix{{Addr: 1, Len: 32}, {Addr: 2, Len: 31}, {Addr: 4, Len: 31}, {Addr: 6, Len: 32}}) {
		t.Error(again)
	}
}

// P3.7: a right prefix that is written is read back, and different ones have different texts.
func TestPrefixesBack(t *testing.T) {
	found := map[string]api.Prefix{}
	for _, p := range prefixes() {
		s, e := addr.PrefixText(p)
		if !right(p) {
			text(t, p, s, e, "", addr.ErrPrefix)
			continue
		}
		returns(t, found, p, s, addr.ReadPrefix)
		// A prefix of these bounds is the only one that covers them.
		from, to, _ := addr.Bounds(p)
		if l, _ := addr.Cover(from, to); !slices.Equal(l, []api.Prefix{p}) {
			t.Errorf("%v: %v", p, l)
		}
	}
}
