package wire

import (
	"slices"

	"baffle/api"
)

// Reader reads bytes.
type Reader struct {
	self   *Reader // the reader itself: a copy of it is no reader
	bytes  []byte
	at     int
	failed bool
}

// NewReader returns a reader of the bytes of b.
func NewReader(b []byte) (*Reader, api.Errno) {
	if len(b) > MaxBytes {
		return nil, api.ErrLong
	}
	r := &Reader{bytes: slices.Clone(b)}
	r.self = r
	return r, api.OK
}

// real reports whether NewReader returned the reader.
func (r *Reader) real() bool { return r != nil && r.self == r }

// take reads n bytes. They belong to the reader: a result needs a copy of them.
func (r *Reader) take(n int) []byte {
	if !r.real() || r.failed {
		return nil
	}
	if n < 0 || n > len(r.bytes)-r.at {
		r.failed = true
		return nil
	}
	from := r.at
	r.at += n
	return r.bytes[from:r.at]
}

// U8 reads a number of 1 byte.
func (r *Reader) U8() uint8 { return join[uint8](r.take(1)) }

// U16 reads a number of 2 bytes.
func (r *Reader) U16() uint16 { return join[uint16](r.take(2)) }

// U32 reads a number of 4 bytes.
func (r *Reader) U32() uint32 { return join[uint32](r.take(4)) }

// Bytes reads n bytes.
func (r *Reader) Bytes(n int) []byte { return slices.Clone(r.take(n)) }

// Skip reads n bytes and returns nothing.
func (r *Reader) Skip(n int) { r.take(n) }

// Left returns how many bytes follow the position.
func (r *Reader) Left() int {
	if !r.real() {
		return 0
	}
	return len(r.bytes) - r.at
}

// At returns the position.
func (r *Reader) At() int {
	if !r.real() {
		return 0
	}
	return r.at
}

// Failed reports whether the reader has failed, or is none.
func (r *Reader) Failed() bool { return !r.real() || r.failed }
