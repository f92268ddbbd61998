package opts_test

import (
	"slices"
	"testing"

	"baffle/api"
	"baffle/opts"
)

// The kinds that have addresses.
var routes = []uint8{opts.KindRecord, opts.KindLoose, opts.KindStrict}

// P6.5: what is done, and what is left.
func TestRoute(t *testing.T) {
	d := []byte{8, 10, 0, 0, 1, 255, 254, 253, 252, 0, 0, 0, 7}
	all := []uint32{167772161, 4294901244, 7}
	for _, kind := range routes {
		for k := range 4 {
			d[0] = byte(4 + 4*k)
			done, left, e := opts.Route(option(kind, d...))
			if !slices.Equal(done, all[:k]) || !slices.Equal(left, all[k:]) || e != api.OK {
				t.Errorf("%d, %d done: %v, %v, %d", kind, k, done, left, e)
			}
		}
		if done, left, e := opts.Route(option(kind, 4)); len(done) != 0 || len(left) != 0 || e != api.OK {
			t.Errorf("%d without addresses: %v, %v, %d", kind, done, left, e)
		}
		if done, left, e := opts.Route(option(kind, long(37, 12)...)); len(done) != 2 || len(left) != 7 || left[6] != 0x09090909 || e != api.OK {
			t.Errorf("%d with nine addresses: %v, %v, %d", kind, done, left, e)
		}
	}
}

// P6.5: an address comes to its place, and nothing else changes; the document's example.
func TestRecord(t *testing.T) {
	o, e := opts.Record(option(opts.KindRecord, 4, 0, 0, 0, 0), 167772161)
	if !same(o, option(opts.KindRecord, 8, 10, 0, 0, 1)) || e != api.OK {
		t.Error(o, e)
	}
	if again, e := opts.Record(o, 167772161); !same(again, opts.Option{}) || e != api.ErrFull {
		t.Error(again, e)
	}
	for _, kind := range routes {
		for i, c := range []struct{ o, want []byte }{
			{[]byte{4, 1, 2, 3, 4, 5, 6, 7, 8, 9, 10, 11, 12}, []byte{8, 0xfe, 0xdc, 0xba, 0x98, 5, 6, 7, 8, 9, 10, 11, 12}},
			{[]byte{8, 1, 2, 3, 4, 5, 6, 7, 8, 9, 10, 11, 12}, []byte{12, 1, 2, 3, 4, 0xfe, 0xdc, 0xba, 0x98, 9, 10, 11, 12}},
			{[]byte{12, 1, 2, 3, 4, 5, 6, 7, 8, 9, 10, 11, 12}, []byte{16, 1, 2, 3, 4, 5, 6, 7, 8, 0xfe, 0xdc, 0xba, 0x98}},
		} {
			if o, e := opts.Record(option(kind, c.o...), 0xfedcba98); !same(o, option(kind, c.want...)) || e != api.OK {
				t.Errorf("%d, %d: %v, %d", kind, i, o, e)
			}
		}
		for _, d := range [][]byte{{4}, {8, 1, 2, 3, 4}, {16, 1, 2, 3, 4, 5, 6, 7, 8, 9, 10, 11, 12}, long(37, 40)} {
			if o, e := opts.Record(option(kind, d...), 1); !same(o, opts.Option{}) || e != api.ErrFull {
				t.Errorf("%d, %v is full: %v, %d", kind, d, o, e)
			}
		}
	}
}

// P6.5: options that are not right, or without addresses.
func TestRouteFails(t *testing.T) {
	bad := []opts.Option{{}, option(opts.KindEnd, 4), option(opts.KindNop), option(opts.KindNop, 4), option(opts.KindStamp, 5, 0, 0, 0, 0, 0), option(opts.KindStamp, 5, 1), option(opts.KindAlert, 4, 0), option(opts.KindAlert, 4)}
	for _, kind := range free {
		bad = append(bad, option(kind), option(kind, 4), option(kind, 4, 0, 0, 0, 0))
	}
	for _, kind := range routes {
		for _, d := range [][]byte{nil, {}, {0}, {3}, {5}, {8}, {255}, {4, 0, 0, 0}, {4, 0, 0, 0, 0, 0}, {5, 0, 0, 0, 0}, {0, 0, 0, 0, 0}, {12, 0, 0, 0, 0}, {255, 0, 0, 0, 0}, long(38, 4), long(37, 44), long(41, 4), long(41, 44), long(253, 4), long(257, 252)} {
			bad = append(bad, option(kind, d...))
		}
	}
	for _, o := range bad {
		if done, left, e := opts.Route(o); len(done) != 0 || len(left) != 0 || e != api.ErrArg {
			t.Errorf("%v: %v, %v, %d", o, done, left, e)
		}
		if got, e := opts.Record(o, 1); !same(got, opts.Option{}) || e != api.ErrArg {
			t.Errorf("%v: %v, %d", o, got, e)
		}
	}
}

// P6.5, P6.6: an option with n addresses left records n addresses, and then no more.
func TestRecordAll(t *testing.T) {
	for _, kind := range routes {
		for n := range 10 {
			for k := range n + 1 {
				o := option(kind, long(1+4*n, byte(4+4*k))...)
				all := slices.Repeat([]uint32{0x09090909}, n)
				for i := k; i < n; i++ {
					all[i] = uint32(i) * 0x12345677
					after, e := opts.Record(o, all[i])
					if e != api.OK || !opts.Right(after) {
						t.Fatalf("%d of %d: %v, %d", i, n, after, e)
					}
					o = after
					if done, left, e := opts.Route(o); !slices.Equal(done, all[:i+1]) || !slices.Equal(left, all[i+1:]) || e != api.OK {
						t.Fatalf("%d of %d: %v, %v, %d", i, n, done, left, e)
					}
				}
				if o, e := opts.Record(o, 5); !same(o, opts.Option{}) || e != api.ErrFull {
					t.Fatalf("%d more: %v, %d", n, o, e)
				}
			}
		}
	}
}
