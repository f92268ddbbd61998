package opts

import (
	"bytes"
	"slices"

	"baffle/api"
)

// The bytes of an address.
const address = 4

// Route returns the addresses that are done, and those that are left.
func Route(o Option) ([]uint32, []uint32, api.Errno) {
	if !routes(o) {
		return nil, nil, api.ErrArg
	}
	next := place(o.Data)
	return addresses(o.Data[routeHead:next]), addresses(o.Data[next:]), api.OK
}

// Record returns an option with one more address.
func Record(o Option, addr uint32) (Option, api.Errno) {
	if !routes(o) {
		return Option{}, api.ErrArg
	}
	next := place(o.Data)
	if next == len(o.Data) {
		return Option{}, api.ErrFull
	}
	d := bytes.Clone(o.Data)
	d[0] += address
	copy(d[next:], []byte{byte(addr >> 24), byte(addr >> 16), byte(addr >> 8), byte(addr)})
	return Option{o.Kind, d}, api.OK
}

// routes reports whether an option is right, and has addresses.
func routes(o Option) bool { return (o.Kind == KindRecord || sourced(o)) && Right(o) }

// addresses returns the addresses that some bytes are.
func addresses(b []byte) []uint32 {
	var l []uint32
	for a := range slices.Chunk(b, address) {
		l = append(l, uint32(a[0])<<24|uint32(a[1])<<16|uint32(a[2])<<8|uint32(a[3]))
	}
	return l
}
