package tcp

import (
	"slices"

	"baffle/api"
)

// Write returns the segment with a header and data.
func Write(h Header, src, dst uint32, data []byte) ([]byte, api.Errno) {
	if !h.right(len(data)) {
		return nil, api.ErrArg
	}
	b := slices.Concat(h.unchecked(), data)
	putWord(b, checkAt, check(b, src, dst))
	return b, api.OK
}

// right reports whether there are segments with this header and so many bytes of data.
func (h Header) right(n int) bool {
	return h.SrcPort != 0 && h.DstPort != 0 && Sane(h.Flags) &&
		len(h.Options) <= MaxOptions && len(h.Options)%row == 0 && n <= maxBytes-h.size()
}

// size returns how many bytes the header has.
func (h Header) size() int { return optionsAt + len(h.Options) }

// unchecked returns the bytes of a header, with no checksum yet.
func (h Header) unchecked() []byte {
	b := make([]byte, h.size())
	putWord(b, srcAt, h.SrcPort)
	putWord(b, dstAt, h.DstPort)
	putNumber(b, seqAt, h.Seq)
	putNumber(b, ackAt, h.Ack)
	b[sizeAt] = byte(h.size()/row) << 4
	b[flagsAt] = h.Flags
	putWord(b, windowAt, h.Window)
	putWord(b, urgentAt, h.Urgent)
	copy(b[optionsAt:], h.Options)
	return b
}

func putWord(b []byte, at int, n uint16) { b[at], b[at+1] = byte(n>>8), byte(n) }

func putNumber(b []byte, at int, n uint32) {
	putWord(b, at, uint16(n>>16))
	putWord(b, at+2, uint16(n))
}
