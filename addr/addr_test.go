package addr_test

import (
	"fmt"
	"math"
	"strings"
	"testing"

	"baffle/addr"
	"baffle/api"
)

// address returns the address with four bytes.
func address(a, b, c, d uint8) uint32 {
	return uint32(a)<<24 | uint32(b)<<16 | uint32(c)<<8 | uint32(d)
}

// addresses are those at which something may change.
func addresses() []uint32 {
	return []uint32{
		0, 1, 9, 10, 99, 100, 255, 256, 257, 0xffff, 0x10000, 0xffffff, 0x1000000, 0x7fffffff, 0x80000000, 0x80000001, 0xc0a80101,
		address(10, 0, 0, 0), address(10, 0, 0, 1), address(10, 1, 2, 3), address(10, 255, 255, 255), address(127, 0, 0, 1), address(1, 20, 255, 0),
		0xfffffffe, 0xffffffff,
	}
}

// noNumbers are texts that stand for no number of 8 or 16 bits.
func noNumbers() []string {
	return []string{
		"", " ", "-", "+", "00", "01", "007", "65536", "65537", "99999", "100000", "4294967296", "4294967297", "18446744073709551616", "18446744073709551617",
		strings.Repeat("9", 1000), strings.Repeat("0", 1000), "-1", "+1", "-0", " 1", "1 ", "1\n", "\t1", "1.", ".1", "1e1", "0x1", "1_0", "a", "1a", "a1", "/", ":", "1/", "1:", "*", "\x00", "1\x00", "\xff", "é", "１", "٣",
	}
}

// text checks what was written.
func text(t *testing.T, of any, got string, e api.Errno, want string, wantE api.Errno) {
	t.Helper()
	if got != want || e != wantE {
		t.Errorf("%+v: %q, %d; want %q, %d", of, got, e, want, wantE)
	}
}

// same checks what was read or found.
func same[T comparable](t *testing.T, of any, got T, e api.Errno, want T, wantE api.Errno) {
	t.Helper()
	if got != want || e != wantE {
		t.Errorf("%+v: %+v, %d; want %+v, %d", of, got, e, want, wantE)
	}
}

// returns checks that s, the text of v, is read back, and is that of nothing else found so far.
func returns[T comparable](t *testing.T, found map[string]T, v T, s string, read func(string) (T, api.Errno)) {
	t.Helper()
	if other, ok := found[s]; ok && other != v {
		t.Errorf("%q is %+v and %+v", s, v, other)
	}
	found[s] = v
	back, e := read(s)
	same(t, s, back, e, v, api.OK)
}

// P3.1: the text of an address has its four bytes, the upper one first, and is read back.
func TestAddresses(t *testing.T) {
	for want, a := range map[string]uint32{
		"10.0.0.1": 167772161, "0.0.0.0": 0, "255.255.255.255": math.MaxUint32, "1.2.3.4": 0x01020304, "0.0.0.1": 1, "0.0.1.0": 256, "0.1.0.0": 1 << 16, "1.0.0.0": 1 << 24,
		"192.168.1.20": 0xc0a80114, "9.10.99.100": 0x090a6364, "128.0.0.255": 0x800000ff,
	} {
		text(t, a, addr.Text(a), api.OK, want, api.OK)
		got, e := addr.Read(want)
		same(t, want, got, e, a, api.OK)
	}
	for n := range 256 {
		a := address(uint8(n), uint8(255-n), uint8(n/2), uint8(n*7))
		want := fmt.Sprintf("%d.%d.%d.%d", a>>24, a>>16&255, a>>8&255, a&255)
		text(t, a, addr.Text(a), api.OK, want, api.OK)
		got, e := addr.Read(want)
		same(t, want, got, e, a, api.OK)
	}
}

// P3.1: every other string is no text.
func TestNoAddresses(t *testing.T) {
	bad := []string{
		"", ".", "...", "....", "10.0.0.01", "10.0.0", "10.0.0.256", "10.0.0.1.", ".10.0.0.1", "10.0.0.1.1", "10..0.1", "10.0.0.", "10", "167772161", "10.0.00.1", "010.0.0.1",
		"256.0.0.0", "0.256.0.0", "0.0.256.0", "0.0.0.257", "10.0.0.1/32", "10.0.0.1:80", "10.0.0.1 ", " 10.0.0.1", "10.0.0,1", "10.0.0.-1", "10.0.0.+1", "10.0.0.1\x00", "10.0.0.*", "::1", "a.b.c.d",
		"300.0.0.1", "10.0.0.0x1", "10.0.0.1e1", strings.Repeat("1.", 1000), strings.Repeat(".", 1000),
	}
	for _, n := range append(noNumbers(), "256", "257", "512", "999", "1000") {
		bad = append(bad, n, n+".2.3.4", "1."+n+".3.4", "1.2."+n+".4", "1.2.3."+n)
	}
	for _, s := range bad {
		got, e := addr.Read(s)
		same(t, s, got, e, 0, addr.ErrText)
	}
}

// P3.7: an address that is written is read back, and different ones have different texts.
func TestAddressesBack(t *testing.T) {
	found := map[string]uint32{}
	for i := range uint32(1 << 16) {
		a := i * 2654435761
		returns(t, found, a, addr.Text(a), addr.Read)
	}
}

// P3.1 to P3.6: the numbers of the errors.
func TestErrors(t *testing.T) {
	if addr.ErrText != 30 || addr.ErrPrefix != 31 || addr.ErrRange != 32 {
		t.Error(addr.ErrText, addr.ErrPrefix, addr.ErrRange)
	}
}
