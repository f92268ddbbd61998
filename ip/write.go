package ip

import (
	"slices"

	"baffle/api"
	"baffle/csum"
)

// Write returns the packet with a header and data.
func Write(h Header, data []byte) ([]byte, api.Errno) {
	if !Right(h, len(data)) {
		return nil, api.ErrArg
	}
	// No error: each header has room for its checksum.
	head, _ := csum.Fix(h.unchecked(len(data)), checkAt)
	return slices.Concat(head, data), api.OK
}

// Hop returns a packet with a TTL that is 1 less.
func Hop(b []byte) ([]byte, api.Errno) {
	h, from, to, e := Read(b)
	switch {
	case e != api.OK:
		return nil, e
	case h.TTL <= 1:
		return nil, ErrTTL
	}
	h.TTL--
	return Write(h, b[from:to])
}

// Turn returns a packet with both addresses exchanged. It is not written anew: its checksum stays as it is, also where another one would be right, too.
func Turn(b []byte) ([]byte, api.Errno) {
	_, _, to, e := Read(b)
	if e != api.OK {
		return nil, e
	}
	return slices.Concat(b[:srcAt], b[dstAt:optionsAt], b[srcAt:dstAt], b[optionsAt:to]), api.OK
}

// unchecked returns the bytes of a header that is right for n bytes of data, with no checksum yet.
func (h Header) unchecked(n int) []byte {
	b := make([]byte, h.size())
	b[0] = version<<4 | byte(h.size()/row)
	b[tosAt] = h.TOS
	putWord(b, totalAt, uint16(h.size()+n))
	putWord(b, idAt, h.ID)
	putWord(b, placeAt, h.place())
	b[ttlAt] = h.TTL
	b[protoAt] = h.Proto
	putAddress(b, srcAt, h.Src)
	putAddress(b, dstAt, h.Dst)
	copy(b[optionsAt:], h.Options)
	return b
}

// place returns the flags and the offset.
func (h Header) place() uint16 {
	place := uint16(h.Offset / block)
	if h.DF {
		place |= dontCut
	}
	if h.MF {
		place |= moreCome
	}
	return place
}

func putWord(b []byte, at int, n uint16) { b[at], b[at+1] = byte(n>>8), byte(n) }

func putAddress(b []byte, at int, a uint32) {
	putWord(b, at, uint16(a>>16))
	putWord(b, at+2, uint16(a))
}
