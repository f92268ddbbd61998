package opts_test

import (
	"bytes"
	"slices"
	"testing"

	"baffle/api"
	"baffle/opts"
)

// P6.2: the examples of the document, and each kind.
func TestRead(t *testing.T) {
	route := option(opts.KindRecord, 4, 0, 0, 0, 0)
	nops := slices.Repeat([]opts.Option{option(opts.KindNop)}, 40)
	for _, c := range []struct {
		b    []byte
		want []opts.Option
	}{
		{nil, nil}, {[]byte{}, nil}, {[]byte{0}, nil}, {[]byte{0, 0, 0, 0}, nil}, {make([]byte, 40), nil},
		{[]byte{1, 7, 7, 4, 0, 0, 0, 0}, []opts.Option{option(opts.KindNop), route}},
		{[]byte{7, 7, 4, 0, 0, 0, 0, 0}, []opts.Option{route}}, {[]byte{7, 7, 4, 0, 0, 0, 0}, []opts.Option{route}},
		{append([]byte{7, 7, 4, 0, 0, 0, 0}, make([]byte, 33)...), []opts.Option{route}},
		{[]byte{68, 12, 5, 1, 1, 2, 3, 4, 5, 6, 7, 8}, []opts.Option{option(opts.KindStamp, 5, 1, 1, 2, 3, 4, 5, 6, 7, 8)}},
		{[]byte{1}, nops[:1]}, {[]byte{1, 1, 0, 0}, nops[:2]}, {bytes.Repeat([]byte{1}, 40), nops},
		{[]byte{131, 3, 4, 148, 4, 0, 7, 7, 3, 4, 1, 68, 4, 5, 3, 0}, []opts.Option{option(opts.KindLoose, 4), option(opts.KindAlert, 0, 7), option(opts.KindRecord, 4), option(opts.KindNop), option(opts.KindStamp, 5, 3)}},
		{[]byte{137, 11, 8, 1, 2, 3, 4, 5, 6, 7, 8}, []opts.Option{option(opts.KindStrict, 8, 1, 2, 3, 4, 5, 6, 7, 8)}},
		{[]byte{2, 2, 2, 2, 2, 3, 9}, []opts.Option{option(2), option(2), option(2, 9)}},
		{[]byte{148, 4, 1, 2, 148, 4, 1, 2}, []opts.Option{option(opts.KindAlert, 1, 2), option(opts.KindAlert, 1, 2)}},
		{append([]byte{255, 40}, long(38)...), []opts.Option{option(255, long(38)...)}},
		{append([]byte{7, 39}, long(37, 40)...), []opts.Option{option(opts.KindRecord, long(37, 40)...)}},
		{[]byte{9, 5, 0, 0, 0}, []opts.Option{option(9, 0, 0, 0)}},
	} {
		if l, e := opts.Read(c.b); !sameAll(l, c.want) || e != api.OK {
			t.Errorf("% x: %v, %d; want %v", c.b, l, e, c.want)
		}
	}
}

// P6.2: each error at its limits, and the first one of several.
func TestReadFails(t *testing.T) {
	for _, c := range []struct {
		b    []byte
		want api.Errno
	}{
		{[]byte{5}, opts.ErrCut}, {[]byte{5, 9, 0}, opts.ErrCut}, {[]byte{7}, opts.ErrCut}, {[]byte{148}, opts.ErrCut}, {[]byte{1, 1, 5}, opts.ErrCut}, {[]byte{5, 3}, opts.ErrCut}, {[]byte{5, 255}, opts.ErrCut}, {[]byte{5, 2, 5, 3}, opts.ErrCut},
		{[]byte{7, 7, 4, 0, 0, 0}, opts.ErrCut}, {[]byte{148, 4, 0}, opts.ErrCut}, {[]byte{148, 9, 0, 0}, opts.ErrCut}, {append([]byte{5, 40}, long(37)...), opts.ErrCut}, {append([]byte{5, 41}, long(38)...), opts.ErrCut},
		{[]byte{5, 1}, opts.ErrLength}, {[]byte{5, 0}, opts.ErrLength}, {[]byte{5, 0, 0, 0}, opts.ErrLength}, {[]byte{148, 1, 0, 0}, opts.ErrLength}, {[]byte{1, 5, 1}, opts.ErrLength}, {[]byte{7, 1}, opts.ErrLength},
		{[]byte{7, 6, 4, 0, 0, 0}, opts.ErrLength}, {[]byte{7, 2}, opts.ErrLength}, {[]byte{131, 2}, opts.ErrLength}, {[]byte{137, 2}, opts.ErrLength}, {[]byte{7, 3, 5}, opts.ErrLength}, {[]byte{131, 3, 8}, opts.ErrLength}, {[]byte{137, 3, 0}, opts.ErrLength}, {[]byte{68, 2}, opts.ErrLength}, {[]byte{68, 3, 5}, opts.ErrLength}, {[]byte{68, 4, 5, 2}, opts.ErrLength}, {[]byte{68, 8, 5, 1, 0, 0, 0, 0}, opts.ErrLength}, {[]byte{148, 2}, opts.ErrLength}, {[]byte{148, 3, 0}, opts.ErrLength}, {[]byte{148, 5, 0, 0, 0}, opts.ErrLength},
		{[]byte{0, 0, 3}, opts.ErrTail}, {[]byte{0, 1}, opts.ErrTail}, {[]byte{1, 0, 255, 0}, opts.ErrTail}, {append(make([]byte, 39), 1), opts.ErrTail}, {[]byte{7, 3, 4, 0, 7, 3, 4}, opts.ErrTail}, {[]byte{0, 5}, opts.ErrTail}, {[]byte{0, 0, 128}, opts.ErrTail},
		{[]byte{7, 3, 4, 7, 3, 4}, opts.ErrTwice}, {[]byte{68, 4, 5, 0, 68, 4, 5, 1}, opts.ErrTwice}, {[]byte{131, 3, 4, 131, 3, 4}, opts.ErrTwice}, {[]byte{131, 3, 4, 137, 3, 4}, opts.ErrTwice}, {[]byte{137, 3, 4, 131, 3, 4}, opts.ErrTwice}, {[]byte{137, 3, 4, 137, 3, 4}, opts.ErrTwice}, {[]byte{7, 3, 4, 1, 131, 3, 4, 68, 4, 5, 0, 7, 3, 4}, opts.ErrTwice},
		{make([]byte, 41), api.ErrLong}, {bytes.Repeat([]byte{1}, 41), api.ErrLong}, {bytes.Repeat([]byte{5}, 41), api.ErrLong}, {append(make([]byte, 40), 1), api.ErrLong}, {make([]byte, 70000), api.ErrLong}, {append([]byte{7, 3, 4, 7, 3, 4}, make([]byte, 35)...), api.ErrLong},
		{[]byte{7, 3, 4, 7, 3, 5}, opts.ErrLength}, {[]byte{7, 3, 4, 7, 3}, opts.ErrCut}, {[]byte{7, 3, 4, 7, 1}, opts.ErrLength}, {[]byte{7, 3, 4, 7}, opts.ErrCut}, {[]byte{7, 3, 4, 7, 3, 4, 5, 1}, opts.ErrTwice}, {[]byte{7, 3, 4, 7, 3, 4, 0, 3}, opts.ErrTwice}, {[]byte{5, 1, 7, 3, 4, 7, 3, 4}, opts.ErrLength}, {[]byte{7, 3, 4, 5, 1, 7, 3, 4}, opts.ErrLength}, {[]byte{148, 3, 0, 5}, opts.ErrLength}, {[]byte{148, 3, 0, 0, 3}, opts.ErrLength}, {[]byte{148, 9, 0, 0, 3}, opts.ErrCut},
	} {
		if l, e := opts.Read(c.b); len(l) != 0 || e != c.want {
			t.Errorf("% x: %v, %d; want %d", c.b, l, e, c.want)
		}
	}
}

// readBy is the definition, option by option.
func readBy(b []byte) ([]opts.Option, api.Errno) {
	if len(b) > 40 {
		return nil, api.ErrLong
	}
	var l []opts.Option
	used := map[uint8]bool{}
	for at := 0; at < len(b); {
		kind := b[at]
		if kind == 0 {
			for _, c := range b[at:] {
				if c != 0 {
					return nil, opts.ErrTail
				}
			}
			break
		}
		if kind == 1 {
			l = append(l, opts.Option{Kind: 1})
			at++
			continue
		}
		if at+1 == len(b) {
			return nil, opts.ErrCut
		}
		n := int(b[at+1])
		if n < 2 {
			return nil, opts.ErrLength
		}
		if at+n > len(b) {
			return nil, opts.ErrCut
		}
		o := opts.Option{Kind: kind, Data: b[at+2 : at+n]}
		if !rightBy(o) {
			return nil, opts.ErrLength
		}
		group := kind
		if kind == 137 {
			group = 131
		}
		if used[group] && slices.Contains([]uint8{7, 68, 131}, group) {
			return nil, opts.ErrTwice
		}
		used[group] = true
		l = append(l, o)
		at += n
	}
	return l, api.OK
}

// bytesOf returns bytes that are often those of options, or nearly.
func bytesOf(next func(int) int) []byte {
	kinds := []byte{1, 7, 68, 131, 137, 148, 2, 255}
	var b []byte
	for range next(6) {
		kind := kinds[next(len(kinds))]
		if kind == 1 {
			b = append(b, 1)
			continue
		}
		d := make([]byte, next(12))
		for i := range d {
			d[i] = byte(next(256))
		}
		switch kind {
		case 7, 131, 137:
			d = append([]byte{byte(4 + 4*next(3))}, d[:len(d)/4*4]...)
		case 68:
			d = append([]byte{5, byte(next(4))}, d[:len(d)/4*4]...)
		case 148:
			d = []byte{0, 0}
		}
		b = append(append(b, kind, byte(2+len(d))), d...)
	}
	b = append(b, make([]byte, next(4))...)
	if len(b) > 0 && next(3) == 0 {
		b[next(len(b))] = byte(next(12))
	}
	return b[:len(b)-min(len(b), next(20)/18)]
}

// P6.2: any bytes are read, or have their error, as the definition has it.
func TestReadByDefinition(t *testing.T) {
	next := generator(1)
	met := map[api.Errno]int{}
	check := func(b []byte) {
		t.Helper()
		want, wrong := readBy(b)
		l, e := opts.Read(b)
		if !sameAll(l, want) || e != wrong {
			t.Fatalf("% x: %v, %d; want %v, %d", b, l, e, want, wrong)
		}
		met[e]++
	}
	for range 100000 {
		check(bytesOf(next))
		b := make([]byte, next(42))
		for i := range b {
			b[i] = byte(next(256))
		}
		check(b)
	}
	for kind := range 256 {
		for n := range 256 {
			check([]byte{byte(kind), byte(n)})
			check(append([]byte{byte(kind), byte(n)}, long(n % 39)[:max(0, n%39-2)]...))
		}
	}
	for _, e := range []api.Errno{api.OK, api.ErrLong, opts.ErrCut, opts.ErrLength, opts.ErrTail, opts.ErrTwice} {
		if met[e] < 100 {
			t.Errorf("the error %d is met only %d times", e, met[e])
		}
	}
}
