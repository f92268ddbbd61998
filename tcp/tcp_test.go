package tcp_test

import (
	"math"
	"testing"

	"baffle/api"
	"baffle/tcp"
)

// generator returns numbers that are always the same ones, each less than n.
func generator(seed uint32) func(n int) int {
	return func(n int) int {
		seed = seed*1664525 + 1013904223
		return int(seed>>8) % n
	}
}

// saneBy is the definition.
func saneBy(flags uint8) bool {
	syn, rst, fin, ack := flags&2 != 0, flags&4 != 0, flags&1 != 0, flags&16 != 0
	switch {
	case syn && rst, syn && fin, rst && fin:
		return false
	case !syn && !rst:
		return ack
	}
	return true
}

// P8.1: the examples of the document, and those that are common.
func TestSane(t *testing.T) {
	const (
		fin, syn, rst, psh, ack, urg = api.FIN, api.SYN, api.RST, api.PSH, api.ACK, api.URG
		highest                      = 128 | 64
	)
	for _, flags := range []uint8{syn, syn | ack, ack, ack | psh, ack | urg, fin | ack, fin | ack | psh | urg, rst, rst | ack, syn | psh, rst | urg, highest | syn, highest | ack, 255 - fin - rst, 255 - syn - rst, 255 - fin - syn, 255 - fin - syn - rst} {
		if !tcp.Sane(flags) {
			t.Errorf("%08b is not sane", flags)
		}
	}
	for _, flags := range []uint8{0, fin, psh, urg, psh | urg, fin | psh | urg, highest, highest | fin, syn | fin, syn | rst, rst | fin, syn | fin | ack, syn | rst | ack, rst | fin | ack, syn | rst | fin, syn | rst | fin | ack, 255, 255 - ack, 255 - fin, 255 - syn, 255 - rst} {
		if tcp.Sane(flags) {
			t.Errorf("%08b is sane", flags)
		}
	}
}

// P8.1: all flags.
func TestSaneByDefinition(t *testing.T) {
	for flags := range 256 {
		if got := tcp.Sane(uint8(flags)); got != saneBy(uint8(flags)) {
			t.Errorf("%08b: %v", flags, got)
		}
	}
}

// P8.3: all flags, sane or not, with numbers of bytes at each limit.
func TestExtent(t *testing.T) {
	for flags := range 256 {
		more := 0
		if flags&2 != 0 {
			more++
		}
		if flags&1 != 0 {
			more++
		}
		for _, n := range []int{0, 1, 2, 1460, 65514, 65515, 65516, 65534, 65535} {
			if got := tcp.Extent(uint8(flags), n); got != n+more {
				t.Errorf("%08b, %d bytes: %d", flags, n, got)
			}
		}
		for _, n := range []int{-1, -2, -65535, math.MinInt, math.MinInt + 1, 65536, 65537, 1 << 32, 1<<32 + 5, math.MaxInt - 1, math.MaxInt} {
			if got := tcp.Extent(uint8(flags), n); got != 0 {
				t.Errorf("%08b, %d bytes: %d", flags, n, got)
			}
		}
	}
}
