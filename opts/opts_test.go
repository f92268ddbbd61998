package opts_test

import (
	"bytes"
	"slices"
	"testing"

	"baffle/opts"
)

// option returns an option of a kind with some bytes of Data.
func option(kind uint8, data ...byte) opts.Option { return opts.Option{Kind: kind, Data: data} }

// long returns so many bytes that begin with some of them, and of which the others are 9.
func long(n int, first ...byte) []byte {
	return append(slices.Clone(first), bytes.Repeat([]byte{9}, n-len(first))...)
}

func same(a, b opts.Option) bool { return a.Kind == b.Kind && bytes.Equal(a.Data, b.Data) }

func sameAll(a, b []opts.Option) bool { return slices.EqualFunc(a, b, same) }

func cloned(l []opts.Option) []opts.Option {
	other := slices.Clone(l)
	for i, o := range l {
		other[i].Data = bytes.Clone(o.Data)
	}
	return other
}

// generator returns numbers that are always the same ones, each less than n.
func generator(seed uint32) func(n int) int {
	return func(n int) int {
		seed = seed*1664525 + 1013904223
		return int(seed>>8) % n
	}
}

// The kinds of which options may have any Data.
var free = []uint8{2, 6, 8, 67, 69, 130, 132, 136, 138, 147, 149, 255}

// P6.1: each kind at its limits.
func TestRight(t *testing.T) {
	for _, c := range []struct {
		o    opts.Option
		want bool
	}{
		{opts.Option{}, false}, {option(opts.KindEnd), false}, {option(opts.KindEnd, 1), false}, {option(opts.KindEnd, 4, 0, 0, 0, 0), false},
		{option(opts.KindNop), true}, {opts.Option{Kind: opts.KindNop, Data: []byte{}}, true}, {option(opts.KindNop, 0), false}, {option(opts.KindNop, 4), false}, {option(opts.KindNop, long(38)...), false},
		{option(opts.KindAlert, 0, 0), true}, {option(opts.KindAlert, 255, 255), true}, {option(opts.KindAlert), false}, {option(opts.KindAlert, 0), false}, {option(opts.KindAlert, 0, 0, 0), false}, {option(opts.KindAlert, long(38)...), false},
		{option(opts.KindStamp), false}, {option(opts.KindStamp, 5), false}, {option(opts.KindStamp, 4), false}, {option(opts.KindStamp, 5, 0), true}, {option(opts.KindStamp, 5, 1), true}, {option(opts.KindStamp, 5, 3), true}, {option(opts.KindStamp, 5, 2), false}, {option(opts.KindStamp, 5, 4), false}, {option(opts.KindStamp, 5, 15), false}, {option(opts.KindStamp, 5, 16), true}, {option(opts.KindStamp, 5, 18), false}, {option(opts.KindStamp, 5, 0xf0), true}, {option(opts.KindStamp, 5, 0xf1), true}, {option(opts.KindStamp, 5, 0xf3), true}, {option(opts.KindStamp, 5, 0xff), false}, {option(opts.KindStamp, 4, 0), false}, {option(opts.KindStamp, 9, 0), false}, {option(opts.KindStamp, 13, 1), false}, {option(opts.KindStamp, 0, 0), false}, {option(opts.KindStamp, 1, 0), false},
		{option(opts.KindStamp, long(6, 5, 0)...), true}, {option(opts.KindStamp, long(6, 9, 0)...), true}, {option(opts.KindStamp, long(6, 13, 0)...), false}, {option(opts.KindStamp, long(6, 6, 0)...), false}, {option(opts.KindStamp, long(6, 5, 1)...), false}, {option(opts.KindStamp, long(5, 5, 0)...), false}, {option(opts.KindStamp, long(7, 5, 0)...), false}, {option(opts.KindStamp, long(3, 5, 0)...), false},
		{option(opts.KindStamp, long(10, 5, 1)...), true}, {option(opts.KindStamp, long(10, 13, 1)...), true}, {option(opts.KindStamp, long(10, 9, 1)...), false}, {option(opts.KindStamp, long(10, 9, 0)...), true}, {option(opts.KindStamp, long(10, 21, 3)...), false}, {option(opts.KindStamp, long(10, 13, 3)...), true},
		{option(opts.KindStamp, long(38, 41, 0)...), true}, {option(opts.KindStamp, long(38, 45, 0)...), false}, {option(opts.KindStamp, long(38, 5, 1)...), false}, {option(opts.KindStamp, long(34, 37, 1)...), true}, {option(opts.KindStamp, long(34, 41, 1)...), false}, {option(opts.KindStamp, long(42, 5, 0)...), false}, {option(opts.KindStamp, long(42, 5, 1)...), false},
	} {
		if got := opts.Right(c.o); got != c.want {
			t.Errorf("%v: %v", c.o, got)
		}
	}
	for _, kind := range []uint8{opts.KindRecord, opts.KindLoose, opts.KindStrict} {
		for _, c := range []struct {
			d    []byte
			want bool
		}{
			{nil, false}, {long(1, 4), true}, {long(1, 0), false}, {long(1, 3), false}, {long(1, 5), false}, {long(1, 8), false}, {long(1, 255), false},
			{long(5, 4), true}, {long(5, 8), true}, {long(5, 12), false}, {long(5, 0), false}, {long(5, 5), false}, {long(5, 7), false}, {long(5, 9), false}, {long(5, 252), false}, {long(2, 4), false}, {long(3, 4), false}, {long(4, 4), false}, {long(6, 4), false},
			{long(37, 4), true}, {long(37, 40), true}, {long(37, 44), false}, {long(37, 36), true}, {long(38, 4), false}, {long(41, 4), false}, {long(41, 44), false}, {long(253, 252), false}, {long(257, 4), false}, {long(1025, 4), false},
		} {
			if got := opts.Right(opts.Option{Kind: kind, Data: c.d}); got != c.want {
				t.Errorf("%d: %v: %v", kind, c.d, got)
			}
		}
	}
	for _, kind := range free {
		for _, n := range []int{0, 1, 2, 37, 38, 39, 40, 256, 257, 294, 70000} {
			if got := opts.Right(opts.Option{Kind: kind, Data: long(n)}); got != (n <= 38) {
				t.Errorf("%d: %d bytes: %v", kind, n, got)
			}
		}
	}
}

// rightBy is the definition: all pointers that an option may have are tried.
func rightBy(o opts.Option) bool {
	d := o.Data
	if o.Kind == opts.KindEnd || len(d) > 38 || o.Kind == opts.KindNop && len(d) > 0 || o.Kind == opts.KindAlert && len(d) != 2 {
		return false
	}
	first, entry := 0, 0
	switch o.Kind {
	case opts.KindRecord, opts.KindLoose, opts.KindStrict:
		first, entry = 4, 4
	case opts.KindStamp:
		first, entry = 5, 8
		if len(d) < 2 || d[1]%16 == 2 || d[1]%16 > 3 {
			return false
		}
		if d[1]%16 == 0 {
			entry = 4
		}
	default:
		return true
	}
	for n := range 10 {
		for k := range n + 1 {
			if len(d) == first-3+n*entry && int(d[0]) == first+k*entry {
				return true
			}
		}
	}
	return false
}

// P6.1: all kinds, lengths, pointers and flags.
func TestRightByDefinition(t *testing.T) {
	check := func(o opts.Option) {
		if got := opts.Right(o); got != rightBy(o) {
			t.Fatalf("%v: %v", o, got)
		}
	}
	for kind := range 256 {
		for n := range 45 {
			check(option(uint8(kind), long(n)...))
		}
	}
	for _, kind := range []uint8{opts.KindNop, opts.KindRecord, opts.KindLoose, opts.KindStrict, opts.KindAlert} {
		for n := 1; n < 45; n++ {
			for p := range 256 {
				check(option(kind, long(n, byte(p))...))
			}
		}
	}
	for n := 2; n < 45; n++ {
		d := long(n)
		for p := range 256 {
			for f := range 256 {
				d[0], d[1] = byte(p), byte(f)
				check(option(opts.KindStamp, d...))
			}
		}
	}
}
