package opts_test

import (
	"bytes"
	"slices"
	"testing"

	"baffle/api"
	"baffle/opts"
)

// P6.3: options one after the other, and the bytes 0 after them.
func TestWrite(t *testing.T) {
	nop := option(opts.KindNop)
	for _, c := range []struct {
		l    []opts.Option
		want []byte
	}{
		{nil, nil}, {[]opts.Option{}, nil},
		{[]opts.Option{nop, option(opts.KindRecord, 4, 0, 0, 0, 0)}, []byte{1, 7, 7, 4, 0, 0, 0, 0}},
		{[]opts.Option{nop, option(opts.KindRecord, 8, 10, 0, 0, 1)}, []byte{1, 7, 7, 8, 10, 0, 0, 1}},
		{[]opts.Option{option(opts.KindRecord, 8, 10, 0, 0, 1)}, []byte{7, 7, 8, 10, 0, 0, 1, 0}},
		{[]opts.Option{nop}, []byte{1, 0, 0, 0}}, {[]opts.Option{nop, nop}, []byte{1, 1, 0, 0}}, {[]opts.Option{nop, nop, nop}, []byte{1, 1, 1, 0}}, {[]opts.Option{nop, nop, nop, nop}, []byte{1, 1, 1, 1}}, {[]opts.Option{nop, nop, nop, nop, nop}, []byte{1, 1, 1, 1, 1, 0, 0, 0}},
		{[]opts.Option{option(opts.KindStamp, 5, 1, 1, 2, 3, 4, 5, 6, 7, 8)}, []byte{68, 12, 5, 1, 1, 2, 3, 4, 5, 6, 7, 8}},
		{[]opts.Option{option(2)}, []byte{2, 2, 0, 0}}, {[]opts.Option{option(2), option(2, 5)}, []byte{2, 2, 2, 3, 5, 0, 0, 0}},
		{[]opts.Option{option(opts.KindLoose, 4), option(opts.KindStamp, 5, 0), option(opts.KindAlert, 1, 2), option(opts.KindAlert, 1, 2), option(opts.KindRecord, 4)}, []byte{131, 3, 4, 68, 4, 5, 0, 148, 4, 1, 2, 148, 4, 1, 2, 7, 3, 4, 0, 0}},
		{slices.Repeat([]opts.Option{nop}, 40), bytes.Repeat([]byte{1}, 40)}, {slices.Repeat([]opts.Option{nop}, 37), append(bytes.Repeat([]byte{1}, 37), 0, 0, 0)},
		{[]opts.Option{option(255, long(38)...)}, append([]byte{255, 40}, long(38)...)}, {[]opts.Option{option(255, long(37)...)}, append([]byte{255, 39}, append(long(37), 0)...)}, {[]opts.Option{nop, option(255, long(37)...)}, append([]byte{1, 255, 39}, long(37)...)},
		{[]opts.Option{option(opts.KindStrict, long(37, 40)...), nop}, append(append([]byte{137, 39}, long(37, 40)...), 1)},
	} {
		if b, e := opts.Write(c.l); !bytes.Equal(b, c.want) || e != api.OK {
			t.Errorf("%v: % x, %d; want % x", c.l, b, e, c.want)
		}
	}
}

// P6.3: each error at its limits, and the first one of several.
func TestWriteFails(t *testing.T) {
	nop, end, route := option(opts.KindNop), option(opts.KindEnd), option(opts.KindRecord, 4)
	most := option(255, long(38)...)
	for i, c := range []struct {
		l    []opts.Option
		want api.Errno
	}{
		{[]opts.Option{end}, api.ErrArg}, {[]opts.Option{nop, end}, api.ErrArg}, {[]opts.Option{{}, nop}, api.ErrArg}, {[]opts.Option{option(opts.KindNop, 0)}, api.ErrArg}, {[]opts.Option{option(opts.KindAlert, 0)}, api.ErrArg}, {[]opts.Option{option(opts.KindRecord)}, api.ErrArg}, {[]opts.Option{option(2, long(39)...)}, api.ErrArg}, {[]opts.Option{option(2, long(256)...)}, api.ErrArg}, {[]opts.Option{option(2, long(254)...)}, api.ErrArg}, {[]opts.Option{option(opts.KindStamp, 5, 2)}, api.ErrArg},
		{[]opts.Option{route, route}, opts.ErrTwice}, {[]opts.Option{option(opts.KindStamp, 5, 0), option(opts.KindStamp, 5, 1)}, opts.ErrTwice}, {[]opts.Option{option(opts.KindLoose, 4), option(opts.KindLoose, 4)}, opts.ErrTwice}, {[]opts.Option{option(opts.KindLoose, 4), option(opts.KindStrict, 4)}, opts.ErrTwice}, {[]opts.Option{option(opts.KindStrict, 4), option(opts.KindLoose, 4)}, opts.ErrTwice}, {[]opts.Option{option(opts.KindStrict, 4), nop, option(opts.KindStrict, 4)}, opts.ErrTwice},
		{slices.Repeat([]opts.Option{nop}, 41), api.ErrLong}, {[]opts.Option{most, nop}, api.ErrLong}, {[]opts.Option{nop, most}, api.ErrLong}, {slices.Repeat([]opts.Option{option(2)}, 21), api.ErrLong}, {slices.Repeat([]opts.Option{most}, 300), api.ErrLong}, {slices.Repeat([]opts.Option{nop}, 100000), api.ErrLong}, {slices.Repeat([]opts.Option{nop}, 256), api.ErrLong}, {[]opts.Option{option(2, long(37)...), option(2)}, api.ErrLong},
		{[]opts.Option{route, route, end}, api.ErrArg}, {append(slices.Repeat([]opts.Option{nop}, 41), end), api.ErrArg}, {[]opts.Option{most, route, route}, opts.ErrTwice}, {append(slices.Repeat([]opts.Option{nop}, 100000), route, route), opts.ErrTwice}, {[]opts.Option{most, route, route, end}, api.ErrArg},
	} {
		if b, e := opts.Write(c.l); len(b) != 0 || e != c.want {
			t.Errorf("%d: % x, %d; want %d", i, b, e, c.want)
		}
	}
}

// listOf returns options that are often right, and often exclude one another.
func listOf(next func(int) int) []opts.Option {
	kinds := []uint8{1, 1, 1, 7, 68, 131, 137, 148, 2, 255}
	var l []opts.Option
	for range next(12) {
		kind := kinds[next(len(kinds))]
		d := make([]byte, next(8))
		for i := range d {
			d[i] = byte(next(256))
		}
		switch kind {
		case 1:
			d = nil
		case 7, 131, 137:
			d = append([]byte{byte(4 + 4*next(1+len(d)/4))}, d[:len(d)/4*4]...)
		case 68:
			d = append([]byte{5, byte(16 * next(16))}, d[:len(d)/4*4]...)
		case 148:
			d = []byte{byte(next(256)), 0}
		}
		if next(80) == 0 {
			d = append(d, 3)
		}
		l = append(l, opts.Option{Kind: kind, Data: d})
	}
	return l
}

// writeBy is the definition.
func writeBy(l []opts.Option) ([]byte, api.Errno) {
	used := map[uint8]int{}
	var b []byte
	for _, o := range l {
		if !rightBy(o) {
			return nil, api.ErrArg
		}
		used[o.Kind]++
		b = append(b, o.Kind)
		if o.Kind != 1 {
			b = append(append(b, byte(len(o.Data)+2)), o.Data...)
		}
	}
	if used[7] > 1 || used[68] > 1 || used[131]+used[137] > 1 {
		return nil, opts.ErrTwice
	}
	if len(b) > 40 {
		return nil, api.ErrLong
	}
	return append(b, make([]byte, (4-len(b)%4)%4)...), api.OK
}

// P6.3, P6.6: any options are written as the definition has it, and are read as they were.
func TestWriteByDefinition(t *testing.T) {
	next := generator(2)
	met := map[api.Errno]int{}
	for range 100000 {
		l := listOf(next)
		want, wrong := writeBy(l)
		b, e := opts.Write(l)
		if !bytes.Equal(b, want) || e != wrong {
			t.Fatalf("%v: % x, %d; want % x, %d", l, b, e, want, wrong)
		}
		if met[e]++; e != api.OK {
			continue
		}
		if again, e := opts.Read(b); !sameAll(again, l) || e != api.OK {
			t.Fatalf("%v is read as %v, %d", l, again, e)
		}
	}
	for _, e := range []api.Errno{api.OK, api.ErrArg, opts.ErrTwice, api.ErrLong} {
		if met[e] < 100 {
			t.Errorf("the error %d is met only %d times", e, met[e])
		}
	}
}

// P6.6: what is read is written as the same bytes, up to bytes 0 at the end.
func TestWriteWhatIsRead(t *testing.T) {
	next := generator(3)
	n := 0
	for range 100000 {
		b := bytesOf(next)
		l, e := opts.Read(b)
		if e != api.OK {
			continue
		}
		n++
		again, e := opts.Write(l)
		if e != api.OK || len(again)%4 != 0 {
			t.Fatalf("% x: % x, %d", b, again, e)
		}
		whole := make([]byte, 44)
		copy(whole, b)
		if !bytes.Equal(whole, append(again, make([]byte, 44-len(again))...)) {
			t.Fatalf("% x is written as % x", b, again)
		}
	}
	if n < 10000 {
		t.Errorf("only %d are read", n)
	}
}
