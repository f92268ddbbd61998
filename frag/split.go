package frag

import (
	"bytes"
	"slices"

	"baffle/api"
	"baffle/ip"
)

// block is how many bytes offsets count.
const block = 8

// Split returns the pieces of a packet.
func Split(b []byte, size int) ([][]byte, api.Errno) {
	if size < block || size%block != 0 {
		return nil, api.ErrArg
	}
	h, from, to, e := ip.Read(b)
	switch {
	case e != api.OK:
		return nil, e
	case to-from <= size:
		return [][]byte{bytes.Clone(b[:to])}, api.OK
	case h.DF:
		return nil, ErrDF
	}
	return cut(h, b[from:to], size), api.OK
}

// cut returns the fragments of a packet that has some bytes of data.
func cut(h ip.Header, data []byte, size int) [][]byte {
	var l [][]byte
	more, end := h.MF, h.Offset+len(data)
	for piece := range slices.Chunk(data, size) {
		h.MF = more || h.Offset+len(piece) < end
		// No error: a header that is right for the data is right for each of its pieces.
		b, _ := ip.Write(h, piece)
		l = append(l, b)
		h.Offset += len(piece)
	}
	return l
}
