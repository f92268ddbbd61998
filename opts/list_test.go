package opts_test

import (
	"testing"

	"baffle/opts"
)

// P6.4: the first option of a kind, in any list.
func TestFind(t *testing.T) {
	l := []opts.Option{option(opts.KindNop), option(opts.KindRecord, 8, 1, 2, 3, 4), option(2, 1), option(2, 2), option(opts.KindAlert), option(opts.KindRecord, 4), option(opts.KindEnd, 3), option(3, long(300)...), option(opts.KindEnd)}
	for i, want := range map[int]bool{0: true, 1: true, 2: true, 3: false, 4: true, 5: false, 6: true, 7: true, 8: false} {
		o, ok := opts.Find(l, l[i].Kind)
		if !ok || same(o, l[i]) != want {
			t.Errorf("%d: %v, %v", i, o, ok)
		}
	}
	for _, kind := range []uint8{opts.KindStamp, opts.KindLoose, opts.KindStrict, 4, 255} {
		if o, ok := opts.Find(l, kind); ok || !same(o, opts.Option{}) {
			t.Errorf("%d: %v, %v", kind, o, ok)
		}
	}
	for kind := range 256 {
		if o, ok := opts.Find(nil, uint8(kind)); ok || !same(o, opts.Option{}) {
			t.Errorf("%d of none: %v, %v", kind, o, ok)
		}
		if o, ok := opts.Find([]opts.Option{option(9, 9), option(uint8(kind), 7)}, uint8(kind)); !ok || o.Kind != uint8(kind) || kind != 9 && o.Data[0] != 7 {
			t.Errorf("%d: %v, %v", kind, o, ok)
		}
	}
}

// P6.4: routes of the source, in any list.
func TestRouted(t *testing.T) {
	if opts.Routed(nil) || opts.Routed([]opts.Option{}) {
		t.Error("of none")
	}
	for kind := range 256 {
		want := kind == 131 || kind == 137
		for _, o := range []opts.Option{option(uint8(kind)), option(uint8(kind), 4), option(uint8(kind), long(300)...)} {
			for _, l := range [][]opts.Option{{o}, {o, option(1)}, {option(1), option(7, 4), o}, {option(0), o, option(255)}, {o, o}} {
				if got := opts.Routed(l); got != want {
					t.Errorf("%v: %v", l, got)
				}
			}
		}
	}
}
