package wire_test

import (
	"bytes"
	"math"
	"strings"
	"testing"

	"baffle/api"
	"baffle/wire"
)

func reader(t *testing.T, b ...byte) *wire.Reader {
	t.Helper()
	r, e := wire.NewReader(b)
	if r == nil || e != api.OK {
		t.Fatalf("NewReader of %d bytes: %v, %d", len(b), r, e)
	}
	return r
}

func writer(t *testing.T, limit int) *wire.Writer {
	t.Helper()
	w, e := wire.NewWriter(limit)
	if w == nil || e != api.OK {
		t.Fatalf("NewWriter(%d): %v, %d", limit, w, e)
	}
	return w
}

// place checks the position of a reader of size bytes, and whether it has failed.
func place(t *testing.T, r *wire.Reader, size, at int, failed bool) {
	t.Helper()
	if r.At() != at || r.Left() != size-at || r.Failed() != failed {
		t.Errorf("At %d, Left %d, Failed %v; want %d, %d, %v", r.At(), r.Left(), r.Failed(), at, size-at, failed)
	}
}

// holds checks the bytes of a writer that has not failed.
func holds(t *testing.T, w *wire.Writer, want ...byte) {
	t.Helper()
	b, e := w.Done()
	if !bytes.Equal(b, want) || e != api.OK || w.Len() != len(want) || w.Failed() {
		t.Errorf("Done: % x, %d; Len %d, Failed %v; want % x", b, e, w.Len(), w.Failed(), want)
	}
}

// gone checks a writer that has failed with n bytes.
func gone(t *testing.T, w *wire.Writer, n int) {
	t.Helper()
	b, e := w.Done()
	if len(b) != 0 || e != api.ErrFull || w.Len() != n || !w.Failed() {
		t.Errorf("Done: % x, %d; Len %d, Failed %v; want ErrFull, %d", b, e, w.Len(), w.Failed(), n)
	}
}

// P1.1: numbers have their most significant byte first.
func TestReaderReads(t *testing.T) {
	r := reader(t, 0x80, 0x81, 0x82, 0x83, 0x84, 0x85, 0x86, 1, 2, 3, 4)
	place(t, r, 11, 0, false)
	if v := r.U8(); v != 0x80 {
		t.Errorf("U8: %x", v)
	}
	place(t, r, 11, 1, false)
	if v := r.U16(); v != 0x8182 {
		t.Errorf("U16: %x", v)
	}
	place(t, r, 11, 3, false)
	if v := r.U32(); v != 0x83848586 {
		t.Errorf("U32: %x", v)
	}
	place(t, r, 11, 7, false)
	r.Skip(1)
	place(t, r, 11, 8, false)
	if b := r.Bytes(2); !bytes.Equal(b, []byte{2, 3}) {
		t.Errorf("Bytes: % x", b)
	}
	r.Skip(0)
	if b := r.Bytes(0); len(b) != 0 {
		t.Errorf("Bytes(0): % x", b)
	}
	place(t, r, 11, 10, false)
	r.Skip(1)
	place(t, r, 11, 11, false)
}

// P1.1: a reading that is not possible fails, reads zero and stays.
func TestReaderFails(t *testing.T) {
	for name, read := range map[string]func(r *wire.Reader) bool{
		"U32":         func(r *wire.Reader) bool { return r.U32() == 0 },
		"Bytes(4)":    func(r *wire.Reader) bool { return len(r.Bytes(4)) == 0 },
		"Bytes(-1)":   func(r *wire.Reader) bool { return len(r.Bytes(-1)) == 0 },
		"Bytes(most)": func(r *wire.Reader) bool { return len(r.Bytes(math.MaxInt)) == 0 },
		"Skip(4)":     func(r *wire.Reader) bool { r.Skip(4); return true },
		"Skip(-1)":    func(r *wire.Reader) bool { r.Skip(-1); return true },
		"Skip(least)": func(r *wire.Reader) bool { r.Skip(math.MinInt); return true },
		"Skip(most)":  func(r *wire.Reader) bool { r.Skip(math.MaxInt); return true },
	} {
		r := reader(t, 9, 1, 2, 3)
		r.Skip(1)
		if !read(r) {
			t.Errorf("%s: not zero", name)
		}
		place(t, r, 4, 1, true)
	}
	for size, read := range map[int]func(r *wire.Reader) bool{
		0: func(r *wire.Reader) bool { return r.U8() == 0 },
		1: func(r *wire.Reader) bool { return r.U16() == 0 },
		3: func(r *wire.Reader) bool { return r.U32() == 0 },
	} {
		r := reader(t, []byte{1, 2, 3}[:size]...)
		if !read(r) {
			t.Errorf("of %d bytes: not zero", size)
		}
		place(t, r, size, 0, true)
	}
}

// P1.1: the number of bytes has a bound.
func TestReaderBound(t *testing.T) {
	if r, e := wire.NewReader(make([]byte, wire.MaxBytes+1)); r != nil || e != api.ErrLong {
		t.Error(r, e)
	}
	place(t, reader(t, make([]byte, wire.MaxBytes)...), wire.MaxBytes, 0, false)
	place(t, reader(t), 0, 0, false)
	if wire.MaxBytes != 131072 {
		t.Error(wire.MaxBytes)
	}
}

// P1.1: a reader shares no memory with what it was given, or with what it gave.
func TestReaderShares(t *testing.T) {
	given := []byte{1, 2, 3, 4}
	r := reader(t, given...)
	kept, _ := wire.NewReader(given)
	copy(given, []byte{9, 9, 9, 9})
	if v := kept.U32(); v != 0x01020304 {
		t.Errorf("%x", v)
	}
	first := r.Bytes(2)
	first = append(first[:0], 7, 7, 7)
	if v := r.U16(); v != 0x0304 || first[0] != 7 {
		t.Errorf("%x", v)
	}
	if !bytes.Equal(given, []byte{9, 9, 9, 9}) {
		t.Error(given)
	}
}

// P1.2: numbers, bytes and zeros are put one after the other.
func TestWriterWrites(t *testing.T) {
	w := writer(t, 20)
	holds(t, w)
	w.U8(0x80)
	w.U16(0x8182)
	w.U32(0x83848586)
	holds(t, w, 0x80, 0x81, 0x82, 0x83, 0x84, 0x85, 0x86)
	w.Bytes([]byte{1, 2})
	w.Bytes(nil)
	w.Zeros(3)
	w.Zeros(0)
	w.U8(5)
	holds(t, w, 0x80, 0x81, 0x82, 0x83, 0x84, 0x85, 0x86, 1, 2, 0, 0, 0, 5)
}

// P1.2: Set16 replaces two bytes, from the first to the last two.
func TestWriterSets(t *testing.T) {
	w := writer(t, 5)
	w.Bytes([]byte{1, 2, 3, 4, 5})
	w.Set16(0, 0xa0a1)
	holds(t, w, 0xa0, 0xa1, 3, 4, 5)
	w.Set16(3, 0xb0b1)
	holds(t, w, 0xa0, 0xa1, 3, 0xb0, 0xb1)
	for _, c := range []struct{ size, at int }{{5, 4}, {5, 5}, {5, -1}, {5, math.MinInt}, {5, math.MaxInt}, {5, math.MaxInt - 1}, {1, 0}, {0, 0}, {0, -1}, {0, -2}, {1, -1}} {
		w := writer(t, 9)
		w.Zeros(c.size)
		w.Set16(c.at, 1)
		gone(t, w, c.size)
	}
}

// P1.2: a writer fails at its limit and not before, and its bytes stay.
func TestWriterFails(t *testing.T) {
	for name, write := range map[string]func(w *wire.Writer){
		"U8":           func(w *wire.Writer) { w.U8(1); w.U8(1); w.U8(1); w.U8(1) },
		"U16":          func(w *wire.Writer) { w.U8(1); w.U16(1); w.U16(1) },
		"U32":          func(w *wire.Writer) { w.U8(1); w.U8(1); w.U8(1); w.U32(1) },
		"Bytes":        func(w *wire.Writer) { w.Zeros(3); w.Bytes([]byte{1}) },
		"Bytes(4)":     func(w *wire.Writer) { w.Zeros(3); w.Bytes([]byte{1, 2, 3, 4}) },
		"Zeros":        func(w *wire.Writer) { w.Bytes([]byte{1, 2, 3}); w.Zeros(1) },
		"Zeros(-1)":    func(w *wire.Writer) { w.Zeros(3); w.Zeros(-1) },
		"Zeros(least)": func(w *wire.Writer) { w.Zeros(3); w.Zeros(math.MinInt) },
		"Zeros(most)":  func(w *wire.Writer) { w.Zeros(3); w.Zeros(math.MaxInt) },
	} {
		t.Run(name, func(t *testing.T) {
			w := writer(t, 3)
			write(w)
			gone(t, w, 3)
		})
	}
	w := writer(t, 3)
	w.U16(1)
	w.U8(2)
	w.Zeros(0)
	w.Bytes(nil)
	holds(t, w, 0, 1, 2)
}

// P1.2: the limit has a bound.
func TestWriterBound(t *testing.T) {
	for _, limit := range []int{-1, wire.MaxBytes + 1, math.MinInt, math.MaxInt} {
		if w, e := wire.NewWriter(limit); w != nil || e != api.ErrArg {
			t.Error(limit, w, e)
		}
	}
	none := writer(t, 0)
	holds(t, none)
	none.U8(1)
	gone(t, none, 0)
	most := writer(t, wire.MaxBytes)
	most.Zeros(wire.MaxBytes)
	holds(t, most, make([]byte, wire.MaxBytes)...)
	most.Zeros(1)
	gone(t, most, wire.MaxBytes)
}

// P1.3: Done gives the bytes as often as it is asked, and the writer goes on; nothing is shared.
func TestWriterShares(t *testing.T) {
	w := writer(t, 4)
	given := []byte{1, 2}
	w.Bytes(given)
	given[0] = 9
	first, _ := w.Done()
	first[1] = 8
	_ = append(first, 7)
	w.U8(3)
	holds(t, w, 1, 2, 3)
	holds(t, w, 1, 2, 3)
	w.Set16(0, 0x0506)
	if !bytes.Equal(first, []byte{1, 8}) || !bytes.Equal(given, []byte{9, 2}) {
		t.Error(first, given)
	}
}

// P1.4: a text is two digits for each byte, and only that.
func TestTexts(t *testing.T) {
	for text, want := range map[string][]byte{
		"":                 nil,
		"00":               {0},
		"001fff":           {0, 31, 255},
		"0123456789abcdef": {0x01, 0x23, 0x45, 0x67, 0x89, 0xab, 0xcd, 0xef},
	} {
		if s, e := wire.Hex(want); s != text || e != api.OK {
			t.Errorf("Hex of % x: %q, %d", want, s, e)
		}
		if b, e := wire.Unhex(text); !bytes.Equal(b, want) || e != api.OK {
			t.Errorf("Unhex of %q: % x, %d", text, b, e)
		}
	}
	for _, text := range []string{"1", "001", "0g", "g0", "001FFF", "0A", "A0", "0F", "/0", "0/", ":0", "0:", "`0", "0`", "@0", "0@", " 0", "0 ", "00 11", "0x", "\x00\x00", "\xff\xff", "0011zz", "zz0011", "é"} {
		if b, e := wire.Unhex(text); len(b) != 0 || e != wire.ErrText {
			t.Errorf("Unhex of %q: % x, %d", text, b, e)
		}
	}
	if wire.ErrText != 10 {
		t.Error(wire.ErrText)
	}
}

// P1.4: texts have a bound, which is asked for first.
func TestTextBound(t *testing.T) {
	most := make([]byte, wire.MaxBytes)
	text := strings.Repeat("00", wire.MaxBytes)
	if s, e := wire.Hex(most); s != text || e != api.OK {
		t.Error(len(s), e)
	}
	if b, e := wire.Unhex(text); !bytes.Equal(b, most) || e != api.OK {
		t.Error(len(b), e)
	}
	if s, e := wire.Hex(append(most, 0)); s != "" || e != api.ErrLong {
		t.Error(len(s), e)
	}
	for _, more := range []string{"0", "00", "x", "xx"} {
		if b, e := wire.Unhex(text + more); len(b) != 0 || e != api.ErrLong {
			t.Error(more, len(b), e)
		}
	}
	if b, e := wire.Unhex(text[1:] + "x"); len(b) != 0 || e != wire.ErrText {
		t.Error(len(b), e)
	}
	if b, e := wire.Unhex(text[1:]); len(b) != 0 || e != wire.ErrText {
		t.Error(len(b), e)
	}
}

// P1.5: every byte has one text, and every text of two characters at most one byte.
func TestTextsBelong(t *testing.T) {
	found := 0
	for i := range 1 << 16 {
		s := string([]byte{byte(i >> 8), byte(i)})
		b, e := wire.Unhex(s)
		if e == wire.ErrText {
			continue
		}
		found++
		if back, _ := wire.Hex(b); len(b) != 1 || back != s {
			t.Errorf("%q: % x, %q", s, b, back)
		}
	}
	if found != 256 {
		t.Error(found)
	}
}

// P1.5: what is written is read back, and then nothing is left.
func TestReadBack(t *testing.T) {
	for _, v := range []uint32{0, 1, 0x7f, 0x80, 0xff, 0x100, 0x8000, 0xffff, 0x10000, 0x12345678, 0x80000000, 0xffffffff} {
		w := writer(t, 10)
		w.U8(uint8(v))
		w.U16(uint16(v))
		w.U32(v)
		w.Bytes([]byte{uint8(v), 7})
		w.Zeros(1)
		b, e := w.Done()
		if e != api.OK {
			t.Fatal(e)
		}
		r := reader(t, b...)
		if a, b, c := r.U8(), r.U16(), r.U32(); a != uint8(v) || b != uint16(v) || c != v {
			t.Errorf("%x: %x %x %x", v, a, b, c)
		}
		if b := r.Bytes(3); !bytes.Equal(b, []byte{uint8(v), 7, 0}) {
			t.Errorf("%x: % x", v, b)
		}
		place(t, r, 10, 10, false)
	}
}

// P1.5: who has failed stays as it is, though there would be room.
func TestFailedStays(t *testing.T) {
	r := reader(t, 1, 2, 3, 4, 5)
	r.U16()
	if v := r.U32(); v != 0 {
		t.Error(v)
	}
	if r.U8() != 0 || r.U16() != 0 || r.U32() != 0 || len(r.Bytes(1)) != 0 || len(r.Bytes(0)) != 0 {
		t.Error("it reads")
	}
	r.Skip(1)
	r.Skip(0)
	place(t, r, 5, 2, true)

	for _, fail := range []func(w *wire.Writer){
		func(w *wire.Writer) { w.Zeros(-1) },
		func(w *wire.Writer) { w.Zeros(90) },
		func(w *wire.Writer) { w.Set16(3, 1) },
		func(w *wire.Writer) { w.Bytes(make([]byte, 90)) },
	} {
		w := writer(t, 80)
		w.Bytes([]byte{1, 2, 3, 4})
		fail(w)
		w.U8(1)
		w.U16(1)
		w.U32(1)
		w.Bytes([]byte{1})
		w.Bytes(nil)
		w.Zeros(1)
		w.Zeros(0)
		w.Set16(0, 9)
		gone(t, w, 4)
	}
}

// P1.5: At and Left are together the number of all bytes, whatever is read.
func TestSum(t *testing.T) {
	r := reader(t, make([]byte, 40)...)
	steps := []func(){func() { r.U8() }, func() { r.U16() }, func() { r.U32() }, func() { r.Bytes(5) }, func() { r.Skip(3) }}
	for i := range 30 {
		steps[i%len(steps)]()
		if r.At()+r.Left() != 40 {
			t.Error(i, r.At(), r.Left())
		}
	}
	if !r.Failed() {
		t.Error("it has not failed")
	}
}

// What was not returned by NewReader or NewWriter is no object.
func TestNoObjects(t *testing.T) {
	whole := reader(t, 1, 2, 3, 4)
	copied := *whole
	for i, r := range []*wire.Reader{nil, {}, new(wire.Reader), &copied} {
		r.Skip(1)
		if r.U8() != 0 || r.U16() != 0 || r.U32() != 0 || len(r.Bytes(1)) != 0 || r.At() != 0 || r.Left() != 0 || !r.Failed() {
			t.Error("reader", i)
		}
	}
	place(t, whole, 4, 0, false)

	kept := writer(t, 9)
	kept.U32(5)
	twin := *kept
	for i, w := range []*wire.Writer{nil, {}, new(wire.Writer), &twin} {
		w.U8(1)
		w.U16(1)
		w.U32(1)
		w.Bytes([]byte{1})
		w.Zeros(-1)
		w.Set16(0, 9)
		if b, e := w.Done(); len(b) != 0 || e != api.ErrNil || w.Len() != 0 || !w.Failed() {
			t.Error("writer", i, b, e)
		}
	}
	holds(t, kept, 0, 0, 0, 5)
}

// A writer that has failed and was copied is none: ErrNil comes before ErrFull.
func TestErrorOrder(t *testing.T) {
	w := writer(t, 1)
	w.U16(1)
	gone(t, w, 0)
	twin := *w
	if b, e := twin.Done(); len(b) != 0 || e != api.ErrNil {
		t.Error(b, e)
	}
}

// The examples of the chapter.
func TestExamples(t *testing.T) {
	r := reader(t, 1, 2, 3, 4, 5)
	if v := r.U16(); v != 258 {
		t.Error(v)
	}
	place(t, r, 5, 2, false)
	if v := r.U32(); v != 0 {
		t.Error(v)
	}
	if v := r.U8(); v != 0 {
		t.Error(v)
	}
	place(t, r, 5, 2, true)

	w := writer(t, 5)
	w.U8(7)
	w.U16(258)
	w.Zeros(1)
	holds(t, w, 7, 1, 2, 0)
	w.Set16(2, 65535)
	holds(t, w, 7, 1, 255, 255)
	w.U16(1)
	gone(t, w, 4)
}
