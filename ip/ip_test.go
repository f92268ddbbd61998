package ip_test

import (
	"math"
	"testing"

	"baffle/ip"
)

// P5.1: headers and numbers of bytes at each limit.
func TestRight(t *testing.T) {
	options := func(n int) []byte { return make([]byte, n) }
	for _, c := range []struct {
		h    ip.Header
		n    int
		want bool
	}{
		{ip.Header{}, 0, true}, {ip.Header{}, 1, true}, {ip.Header{}, 65515, true}, {ip.Header{}, 65516, false}, {ip.Header{}, -1, false}, {ip.Header{}, math.MinInt, false}, {ip.Header{}, math.MaxInt, false}, {ip.Header{}, 65536, false}, {ip.Header{}, 1 << 32, false},
		{ip.Header{Options: options(0)}, 65515, true}, {ip.Header{Options: options(4)}, 65511, true}, {ip.Header{Options: options(4)}, 65512, false}, {ip.Header{Options: options(40)}, 0, true}, {ip.Header{Options: options(40)}, 65475, true}, {ip.Header{Options: options(40)}, 65476, false}, {ip.Header{Options: options(40)}, -1, false}, {ip.Header{Options: options(40)}, math.MaxInt, false},
		{ip.Header{Options: options(44)}, 0, false}, {ip.Header{Options: options(41)}, 0, false}, {ip.Header{Options: options(39)}, 0, false}, {ip.Header{Options: options(1)}, 0, false}, {ip.Header{Options: options(2)}, 0, false}, {ip.Header{Options: options(3)}, 0, false}, {ip.Header{Options: options(1 << 16)}, 0, false}, {ip.Header{Options: options(1 << 16)}, -60000, false},
		{ip.Header{Offset: 8}, 0, true}, {ip.Header{Offset: 8}, 65507, true}, {ip.Header{Offset: 8}, 65508, false}, {ip.Header{Offset: 1}, 0, false}, {ip.Header{Offset: 4}, 0, false}, {ip.Header{Offset: 7}, 0, false}, {ip.Header{Offset: 9}, 0, false},
		{ip.Header{Offset: 65512}, 0, true}, {ip.Header{Offset: 65512}, 3, true}, {ip.Header{Offset: 65512}, 4, false}, {ip.Header{Offset: 65520}, 0, false}, {ip.Header{Offset: 65528}, 0, false}, {ip.Header{Offset: 65536}, 0, false}, {ip.Header{Offset: 65520}, -8, false}, {ip.Header{Offset: 65536}, -65536, false},
		{ip.Header{Offset: -8}, 0, false}, {ip.Header{Offset: -8}, 16, false}, {ip.Header{Offset: -1}, 8, false}, {ip.Header{Offset: math.MinInt}, 0, false}, {ip.Header{Offset: math.MinInt}, 8, false}, {ip.Header{Offset: math.MaxInt - 7}, 0, false}, {ip.Header{Offset: math.MaxInt - 7}, 8, false}, {ip.Header{Offset: math.MaxInt - 7}, math.MaxInt, false}, {ip.Header{Offset: math.MaxInt}, 0, false},
		{ip.Header{Offset: 32, Options: options(40)}, 65475, true}, {ip.Header{Offset: 40, Options: options(40)}, 65475, true}, {ip.Header{Offset: 48, Options: options(40)}, 65475, false},
		{ip.Header{MF: true}, 0, false}, {ip.Header{MF: true}, 8, true}, {ip.Header{MF: true}, 1, false}, {ip.Header{MF: true}, 2, false}, {ip.Header{MF: true}, 7, false}, {ip.Header{MF: true}, 12, false}, {ip.Header{MF: true}, 16, true}, {ip.Header{MF: true}, -8, false}, {ip.Header{MF: true}, 65512, true}, {ip.Header{MF: true}, 65515, false}, {ip.Header{MF: true}, 65520, false},
		{ip.Header{MF: true, Offset: 65504}, 8, true}, {ip.Header{MF: true, Offset: 65512}, 8, false}, {ip.Header{MF: true, Offset: 65512}, 0, false}, {ip.Header{MF: true, Offset: 12}, 8, false}, {ip.Header{MF: true, Options: options(40)}, 65472, true},
		{ip.Header{DF: true}, 0, true}, {ip.Header{DF: true}, 3, true}, {ip.Header{DF: true, MF: true, Offset: 8}, 8, true}, {ip.Header{DF: true, MF: true}, 3, false},
		{ip.Header{TOS: 255, ID: 65535, TTL: 255, Proto: 255, Src: math.MaxUint32, Dst: math.MaxUint32}, 5, true},
	} {
		if got := ip.Right(c.h, c.n); got != c.want {
			t.Errorf("%d options, Offset %d, MF %v, %d bytes: %v", len(c.h.Options), c.h.Offset, c.h.MF, c.n, got)
		}
	}
}

// rightFor is the definition, condition by condition.
func rightFor(h ip.Header, n int) bool {
	switch {
	case h.Offset < 0, h.Offset > 65528, h.Offset%8 != 0:
		return false
	case len(h.Options) > 40, len(h.Options)%4 != 0:
		return false
	case n < 0, n > 65535, 20+len(h.Options)+n > 65535, h.Offset+n > ip.MaxData:
		return false
	case h.MF && (n == 0 || n%8 != 0):
		return false
	}
	return true
}

// P5.1: all headers with a few numbers, and around the limits.
func TestRightByDefinition(t *testing.T) {
	var numbers []int
	for _, n := range []int{0, 8, 40, 1000, 32768, 65456, 65475, 65495, 65515, 65528, 65536} {
		for d := -9; d < 10; d++ {
			numbers = append(numbers, n+d)
		}
	}
	for size := range 50 {
		for _, offset := range numbers {
			for _, n := range numbers {
				h := ip.Header{Offset: offset, Options: make([]byte, size)}
				h.MF = size%3 == n%2
				if got := ip.Right(h, n); got != rightFor(h, n) {
					t.Fatalf("%d options, Offset %d, MF %v, %d bytes: %v", size, offset, h.MF, n, got)
				}
			}
		}
	}
}
