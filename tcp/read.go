package tcp

import (
	"bytes"

	"baffle/api"
	"baffle/csum"
)

// Read returns the header of a segment, and where its data begins.
func Read(b []byte) (Header, int, api.Errno) {
	if e := fault(b); e != api.OK {
		return Header{}, 0, e
	}
	return header(b), size(b), api.OK
}

// Verify reports whether the checksum of a segment is right.
func Verify(b []byte, src, dst uint32) bool {
	return len(b) >= optionsAt && len(b) <= api.MaxPacket && check(b, src, dst) == 0
}

// fault returns the first error of some bytes.
func fault(b []byte) api.Errno {
	switch {
	case len(b) < optionsAt:
		return ErrShort
	case size(b) < optionsAt || size(b) > len(b):
		return ErrHeader
	case b[sizeAt]%16 != 0 || !Sane(b[flagsAt]):
		return ErrFlags
	case word(b, srcAt) == 0 || word(b, dstAt) == 0:
		return ErrPort
	}
	return api.OK
}

// header returns the header of bytes that have one, whatever is in it.
func header(b []byte) Header {
	return Header{
		SrcPort: word(b, srcAt),
		DstPort: word(b, dstAt),
		Seq:     number(b, seqAt),
		Ack:     number(b, ackAt),
		Flags:   b[flagsAt],
		Window:  word(b, windowAt),
		Urgent:  word(b, urgentAt),
		Options: bytes.Clone(b[optionsAt:size(b)]),
	}
}

// size returns how many bytes the header is said to have.
func size(b []byte) int { return int(b[sizeAt]>>4) * row }

// check returns the checksum of at most api.MaxPacket bytes, with what they have as theirs. No error: a pseudo header has room for that length.
func check(b []byte, src, dst uint32) uint16 {
	pseudo, _ := csum.Pseudo(src, dst, api.TCP, len(b))
	return csum.Over(pseudo, b)
}

func word(b []byte, at int) uint16 { return uint16(b[at])<<8 | uint16(b[at+1]) }

func number(b []byte, at int) uint32 { return uint32(word(b, at))<<16 | uint32(word(b, at+2)) }
