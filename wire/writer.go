package wire

import (
	"slices"

	"baffle/api"
)

// Writer writes bytes, up to its limit.
type Writer struct {
	self   *Writer // the writer itself: a copy of it is no writer
	limit  int
	bytes  []byte
	failed bool
}

// NewWriter returns a writer without bytes.
func NewWriter(limit int) (*Writer, api.Errno) {
	if limit < 0 || limit > MaxBytes {
		return nil, api.ErrArg
	}
	w := &Writer{limit: limit}
	w.self = w
	return w, api.OK
}

// real reports whether NewWriter returned the writer.
func (w *Writer) real() bool { return w != nil && w.self == w }

// room reports whether the writer may write n bytes more; if it has no room for them it fails.
func (w *Writer) room(n int) bool {
	if w.Failed() {
		return false
	}
	w.failed = n < 0 || n > w.limit-len(w.bytes)
	return !w.failed
}

// put writes the bytes of b.
func (w *Writer) put(b []byte) {
	if w.room(len(b)) {
		w.bytes = append(w.bytes, b...)
	}
}

// U8 writes a number of 1 byte.
func (w *Writer) U8(v uint8) { w.put(split(v, 1)) }

// U16 writes a number of 2 bytes.
func (w *Writer) U16(v uint16) { w.put(split(v, 2)) }

// U32 writes a number of 4 bytes.
func (w *Writer) U32(v uint32) { w.put(split(v, 4)) }

// Bytes writes the bytes of b.
func (w *Writer) Bytes(b []byte) { w.put(b) }

// Zeros writes n bytes 0.
func (w *Writer) Zeros(n int) {
	// The bytes are made only if there is room: n may be more than there is memory for.
	if w.room(n) {
		w.bytes = append(w.bytes, make([]byte, n)...)
	}
}

// Set16 replaces the two bytes from the index at on by a number.
func (w *Writer) Set16(at int, v uint16) {
	if w.Failed() {
		return
	}
	if at < 0 || at > len(w.bytes)-2 {
		w.failed = true
		return
	}
	copy(w.bytes[at:], split(v, 2))
}

// Len returns how many bytes the writer has.
func (w *Writer) Len() int {
	if !w.real() {
		return 0
	}
	return len(w.bytes)
}

// Failed reports whether the writer has failed, or is none.
func (w *Writer) Failed() bool { return !w.real() || w.failed }

// Done returns the bytes of the writer.
func (w *Writer) Done() ([]byte, api.Errno) {
	if !w.real() {
		return nil, api.ErrNil
	}
	if w.failed {
		return nil, api.ErrFull
	}
	return slices.Clone(w.bytes), api.OK
}
