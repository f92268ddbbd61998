package opts_test

import (
	"bytes"
	"testing"

	"baffle/api"
	"baffle/opts"
)

// room returns bytes with spare capacity, and all of them with what is in it.
func room(b ...byte) ([]byte, []byte) {
	whole := append(bytes.Clone(b), 70, 71, 72, 73, 74, 75, 76, 77)
	return whole[:len(b)], whole
}

// P6.1 to P6.5: no argument is modified, nor its spare capacity.
func TestArgumentsStay(t *testing.T) {
	b, whole := room(7, 7, 4, 1, 2, 3, 4, 68, 4, 5, 0, 1, 0)
	d, of := room(4, 1, 2, 3, 4)
	list := []opts.Option{{Kind: 7, Data: d}, {Kind: 1}, {Kind: 131, Data: d}, {Kind: 9, Data: []byte{9}}}
	l := list[:3]
	was, wasOf, wasList := bytes.Clone(whole), bytes.Clone(of), cloned(list)
	for range 2 {
		opts.Read(b)
		opts.Write(l)
		opts.Find(l, 7)
		opts.Routed(l)
		for _, o := range l {
			opts.Right(o)
			opts.Route(o)
			opts.Record(o, 0xffffffff)
		}
	}
	if !bytes.Equal(whole, was) || !bytes.Equal(of, wasOf) || !sameAll(list, wasList) {
		t.Error(whole, of, list)
	}
}

// P6.2 to P6.5: no result changes with an argument, or with another result, not even in its spare capacity.
func TestResultsShareNothing(t *testing.T) {
	fill := func(b []byte) {
		b = b[:cap(b)]
		for i := range b {
			b[i] = 200
		}
	}
	b := []byte{2, 4, 5, 6, 7, 7, 4, 1, 2, 3, 4, 3, 3, 9, 1, 4, 2, 0}
	l, e := opts.Read(b)
	want := cloned(l)
	fill(b)
	if !sameAll(l, want) || e != api.OK || len(l) != 5 {
		t.Fatal(l, e)
	}
	for i := range l {
		fill(l[i].Data)
		l[i].Data = want[i].Data
		if !sameAll(l, want) {
			t.Fatal(i, l)
		}
	}
	route := option(opts.KindRecord, 8, 1, 2, 3, 4, 5, 6, 7, 8)
	written, _ := opts.Write([]opts.Option{route})
	found, _ := opts.Find([]opts.Option{route}, opts.KindRecord)
	recorded, _ := opts.Record(route, 0x0a0b0c0d)
	done, left, _ := opts.Route(route)
	fill(route.Data)
	if !bytes.Equal(written, []byte{7, 11, 8, 1, 2, 3, 4, 5, 6, 7, 8, 0}) || !bytes.Equal(found.Data, []byte{8, 1, 2, 3, 4, 5, 6, 7, 8}) || !bytes.Equal(recorded.Data, []byte{12, 1, 2, 3, 4, 10, 11, 12, 13}) {
		t.Error(written, found, recorded)
	}
	for i := range cap(done) {
		done[:cap(done)][i] = 200
	}
	if len(left) != 1 || left[0] != 0x05060708 {
		t.Error(left)
	}
}
