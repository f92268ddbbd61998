package ip

import (
	"bytes"

	"baffle/api"
	"baffle/csum"
)

// Read returns the header of a packet, and where its data is.
func Read(b []byte) (Header, int, int, api.Errno) {
	for i, found := range faults(b) {
		if found() {
			return Header{}, 0, 0, ErrShort + api.Errno(i)
		}
	}
	return header(b), size(b), total(b), api.OK
}

// faults returns what finds each error of some bytes. Each may be asked only if none of those before it was found, since it looks where they have made sure that there is something.
func faults(b []byte) [ErrTTL - ErrShort]func() bool {
	return [...]func() bool{
		ErrShort - ErrShort:   func() bool { return len(b) < optionsAt },
		ErrVersion - ErrShort: func() bool { return b[0]>>4 != version },
		ErrHeader - ErrShort:  func() bool { return size(b) < optionsAt || size(b) > len(b) },
		ErrTotal - ErrShort:   func() bool { return total(b) < size(b) || total(b) > len(b) },
		ErrSum - ErrShort:     func() bool { return !csum.Right(b[:size(b)]) },
		ErrFlags - ErrShort:   func() bool { return word(b, placeAt)&reserved != 0 },
		ErrOffset - ErrShort:  func() bool { return !Right(header(b), total(b)-size(b)) },
	}
}

// header returns the header of bytes that have one, whatever is in it.
func header(b []byte) Header {
	place := word(b, placeAt)
	return Header{
		TOS:     b[tosAt],
		ID:      word(b, idAt),
		DF:      place&dontCut != 0,
		MF:      place&moreCome != 0,
		Offset:  int(place&offsets) * block,
		TTL:     b[ttlAt],
		Proto:   b[protoAt],
		Src:     address(b, srcAt),
		Dst:     address(b, dstAt),
		Options: bytes.Clone(b[optionsAt:size(b)]),
	}
}

// size returns how many bytes the header is said to have.
func size(b []byte) int { return int(b[0]&15) * row }

// total returns how many bytes the packet is said to have.
func total(b []byte) int { return int(word(b, totalAt)) }

func word(b []byte, at int) uint16 { return uint16(b[at])<<8 | uint16(b[at+1]) }

func address(b []byte, at int) uint32 { return uint32(word(b, at))<<16 | uint32(word(b, at+2)) }
