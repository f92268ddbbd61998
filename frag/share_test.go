package frag_test

import (
	"bytes"
	"slices"
	"testing"

	"baffle/api"
	"baffle/frag"
)

// roomy returns a copy of bytes with spare capacity that is full of nines.
func roomy(b []byte) []byte {
	room := append(slices.Clone(b), bytes.Repeat([]byte{9}, 100)...)
	return room[:len(b)]
}

// intact reports whether the bytes of roomy, and their spare capacity, are as they were.
func intact(room, b []byte) bool {
	return bytes.Equal(room, b) && bytes.Equal(room[:len(b)+100][len(b):], bytes.Repeat([]byte{9}, 100))
}

// spoil changes all bytes of a slice, and of its spare capacity.
func spoil(b []byte) {
	for i := range b[:cap(b)] {
		b[:cap(b)][i] ^= 0xff
	}
}

// P7.1: arguments are as they were, and results share nothing.
func TestSplitShares(t *testing.T) {
	h := withID(1)
	h.Options = data(8)
	b := packet(t, h, data(35))
	for _, size := range []int{8, 16, 40} {
		room := roomy(b)
		want := split(t, b, size)
		l := split(t, room, size)
		if !intact(room, b) {
			t.Error(size, "argument changed")
		}
		spoil(room)
		for i, piece := range l {
			if !bytes.Equal(piece, want[i]) {
				t.Error(size, i, piece)
			}
			spoil(piece)
		}
	}
}

// P7.3: what is put is as it was, and is not kept; what is returned is not, either.
func TestPutShares(t *testing.T) {
	h := withID(1)
	h.Options = data(8)
	b := packet(t, h, data(35))
	for range 2 {
		a := table(t, 1, 10)
		l := split(t, b, 8)
		for i, piece := range l {
			room := roomy(piece)
			whole, e := a.Put(0, room)
			if e != api.OK || (i == len(l)-1) != bytes.Equal(whole, b) || !intact(room, piece) {
				t.Error(i, whole, e)
			}
			spoil(room)
			spoil(whole)
		}
		room := roomy(b)
		whole, e := a.Put(0, room)
		if !bytes.Equal(whole, b) || e != api.OK || !intact(room, b) {
			t.Error(whole, e)
		}
		spoil(whole)
		if !intact(room, b) {
			t.Error("the whole is the argument")
		}
	}
}

// P7.4: lists of groups are new ones, which do not change later.
func TestGroupsShare(t *testing.T) {
	a := table(t, 2, 10)
	put(t, a, 0, part(t, 1, 0, 8, true), nil, api.OK)
	put(t, a, 0, part(t, 2, 0, 8, true), nil, api.OK)
	l, other := a.Groups(), a.Groups()
	put(t, a, 0, part(t, 1, 0, 8, true), nil, frag.ErrDead)
	if want := []frag.Group{group(1, 0, 8, false), group(2, 0, 8, false)}; !slices.Equal(l, want) || !slices.Equal(other, want) {
		t.Error(l, other)
	}
	l[0], l[1] = frag.Group{}, frag.Group{ID: 9}
	has(t, a, 0, group(1, 0, 0, true), group(2, 0, 8, false))
	if other[0] != group(1, 0, 8, false) {
		t.Error(other)
	}
}

// P7.2, P7.3: tables share nothing.
func TestTablesShare(t *testing.T) {
	a, b := table(t, 1, 10), table(t, 1, 10)
	put(t, a, 5, part(t, 1, 0, 8, true), nil, api.OK)
	has(t, b, 0)
	put(t, b, 3, part(t, 1, 8, 3, false), nil, api.OK)
	has(t, a, 5, group(1, 5, 8, false))
	has(t, b, 3, group(1, 3, 3, false))
}
