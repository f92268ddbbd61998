package span_test

import (
	"math"
	"slices"
	"testing"

	"baffle/api"
	"baffle/span"
)

const top = math.MaxUint32

// cells are spans that touch, from the least number to the greatest one. The sets of the tests have all of a cell or nothing of it: bit i of a mask says which.
func cells() []span.Span {
	return []span.Span{{From: 0, To: 0}, {From: 1, To: 1}, {From: 2, To: 9}, {From: 10, To: 10}, {From: 11, To: top - 3}, {From: top - 2, To: top - 2}, {From: top - 1, To: top - 1}, {From: top, To: top}}
}

// masks is how many sets of cells there are.
const masks = 1 << 8

// of returns the right set of the cells of a mask: cells that follow one another are one span.
func of(mask int) span.Set {
	var s span.Set
	before := false
	for i, c := range cells() {
		now := mask>>i&1 == 1
		switch {
		case now && before:
			s[len(s)-1].To = c.To
		case now:
			s = append(s, c)
		}
		before = now
	}
	return s
}

// size is how many numbers the cells of a mask have.
func size(mask int) int {
	n := 0
	for i, c := range cells() {
		if mask>>i&1 == 1 {
			n += int(c.To) - int(c.From) + 1
		}
	}
	return n
}

// singles returns a right set of n spans of one number each.
func singles(n int) span.Set {
	s := make(span.Set, n)
	for i := range s {
		s[i] = span.Span{From: uint32(2 * i), To: uint32(2 * i)}
	}
	return s
}

// wrongSets are sets that are not right.
func wrongSets() []span.Set {
	return []span.Set{
		{{From: 3, To: 1}}, {{From: 1, To: 0}}, {{From: top, To: 0}}, {{From: top, To: top - 1}},
		{{From: 1, To: 2}, {From: 3, To: 4}}, {{From: 1, To: 2}, {From: 2, To: 4}}, {{From: 1, To: 9}, {From: 3, To: 4}}, {{From: 1, To: 2}, {From: 1, To: 2}}, {{From: 5, To: 6}, {From: 1, To: 2}},
		{{From: 1, To: 2}, {From: 9, To: 8}}, {{From: 2, To: 1}, {From: 8, To: 9}}, {{From: 1, To: 2}, {From: 4, To: 5}, {From: 6, To: 7}}, {{From: 1, To: 2}, {From: 9, To: 8}, {From: 20, To: 30}},
		{{From: 0, To: top - 1}, {From: top, To: top}}, {{From: 0, To: top}, {From: top, To: top}}, {{From: 0, To: top}, {From: 0, To: 0}}, {{From: 0, To: 0}, {From: 1, To: 1}}, {{From: 0, To: top}, {From: 1, To: 0}},
	}
}

// sameSet checks a set that was returned.
func sameSet(t *testing.T, what any, got span.Set, e api.Errno, want span.Set, wantE api.Errno) {
	t.Helper()
	if !slices.Equal(got, want) || e != wantE {
		t.Errorf("%v: %v, %d; want %v, %d", what, got, e, want, wantE)
	}
}

// P4.1: a set is right if its spans are, follow one another, and do not touch.
func TestRight(t *testing.T) {
	for _, s := range []span.Set{
		nil, {}, {{From: 0, To: 0}}, {{From: 0, To: top}}, {{From: top, To: top}}, {{From: 1, To: 3}, {From: 5, To: 5}}, {{From: 1, To: 3}, {From: 7, To: 9}}, {{From: 0, To: top - 2}, {From: top, To: top}}, {{From: 0, To: 0}, {From: 2, To: 2}, {From: 4, To: top}},
		singles(span.MaxSpans), singles(span.MaxSpans + 1),
	} {
		if !span.Right(s) {
			t.Error(s)
		}
	}
	for _, s := range wrongSets() {
		if span.Right(s) {
			t.Error(s)
		}
	}
	for m := range masks {
		if !span.Right(of(m)) {
			t.Error(of(m))
		}
	}
}

// P4.1: the set of spans has their numbers, whatever their order, and whether they meet or not.
func TestOf(t *testing.T) {
	for _, c := range []struct {
		l    []span.Span
		want span.Set
	}{
		{nil, nil}, {[]span.Span{{From: 5, To: 7}, {From: 1, To: 2}, {From: 3, To: 3}, {From: 7, To: 9}}, span.Set{{From: 1, To: 3}, {From: 5, To: 9}}},
		{[]span.Span{{From: 4, To: 4}, {From: 4, To: 4}}, span.Set{{From: 4, To: 4}}}, {[]span.Span{{From: 1, To: 9}, {From: 3, To: 4}}, span.Set{{From: 1, To: 9}}}, {[]span.Span{{From: 3, To: 4}, {From: 1, To: 9}, {From: 3, To: 12}}, span.Set{{From: 1, To: 12}}},
		{[]span.Span{{From: top, To: top}, {From: 0, To: top - 1}}, span.Set{{From: 0, To: top}}}, {[]span.Span{{From: 0, To: top}, {From: 0, To: 0}, {From: top, To: top}}, span.Set{{From: 0, To: top}}}, {[]span.Span{{From: top, To: top}, {From: 0, To: top - 2}}, span.Set{{From: 0, To: top - 2}, {From: top, To: top}}},
		{[]span.Span{{From: 1, To: 1}, {From: 3, To: 3}}, span.Set{{From: 1, To: 1}, {From: 3, To: 3}}}, {[]span.Span{{From: 3, To: 3}, {From: 1, To: 1}, {From: 2, To: 2}}, span.Set{{From: 1, To: 3}}},
		{[]span.Span{{From: 2, To: 2}, {From: 2, To: 8}, {From: 2, To: 5}, {From: 10, To: 10}}, span.Set{{From: 2, To: 8}, {From: 10, To: 10}}},
	} {
		got, e := span.Of(c.l)
		sameSet(t, c.l, got, e, c.want, api.OK)
	}
	for _, l := range [][]span.Span{{{From: 3, To: 1}}, {{From: 1, To: 2}, {From: 9, To: 8}}, {{From: 9, To: 8}, {From: 1, To: 2}}, {{From: 1, To: 2}, {From: top, To: 0}, {From: 5, To: 6}}, {{From: 0, To: top}, {From: 1, To: 0}}} {
		got, e := span.Of(l)
		sameSet(t, l, got, e, nil, api.ErrArg)
	}
}

// runs are all spans of cells that follow one another, with their masks.
func runs() ([]span.Span, []int) {
	var l []span.Span
	var m []int
	all := cells()
	for i := range all {
		mask := 0
		for j := i; j < len(all); j++ {
			mask |= 1 << j
			l, m = append(l, span.Span{From: all[i].From, To: all[j].To}), append(m, mask)
		}
	}
	return l, m
}

// P4.1, P4.6: three spans in any order make the set of the numbers that one of them has.
func TestOfThree(t *testing.T) {
	l, m := runs()
	for i := range l {
		for j := range l {
			for k := range l {
				got, e := span.Of([]span.Span{l[i], l[j], l[k]})
				if want := of(m[i] | m[j] | m[k]); !slices.Equal(got, want) || e != api.OK {
					t.Fatalf("%v, %v, %v: %v, %d; want %v", l[i], l[j], l[k], got, e, want)
				}
			}
		}
	}
}

// P4.1: there may be as many spans as the limit says, and too many are asked for before wrong ones.
func TestOfMany(t *testing.T) {
	most := singles(span.MaxSpans)
	slices.Reverse(most)
	got, e := span.Of(most)
	sameSet(t, "most", got, e, singles(span.MaxSpans), api.OK)
	most[7] = span.Span{From: 8, To: 7}
	got, e = span.Of(most)
	sameSet(t, "most and wrong", got, e, nil, api.ErrArg)
	got, e = span.Of(append(most, span.Span{}))
	sameSet(t, "many and wrong", got, e, nil, api.ErrMany)
	got, e = span.Of(singles(span.MaxSpans + 1))
	sameSet(t, "many", got, e, nil, api.ErrMany)
	got, e = span.Of(make([]span.Span, span.MaxSpans+1))
	sameSet(t, "many that are the same", got, e, nil, api.ErrMany)
}

// P4.1: a set has the numbers of each of its spans, right or not.
func TestHas(t *testing.T) {
	for _, c := range []struct {
		s    span.Set
		n    uint32
		want bool
	}{
		{nil, 0, false}, {nil, top, false}, {span.Set{{From: 0, To: 0}}, 0, true}, {span.Set{{From: 0, To: 0}}, 1, false}, {span.Set{{From: top, To: top}}, top, true}, {span.Set{{From: 0, To: top}}, 77, true},
		{span.Set{{From: 1, To: 3}, {From: 7, To: 7}}, 0, false}, {span.Set{{From: 1, To: 3}, {From: 7, To: 7}}, 1, true}, {span.Set{{From: 1, To: 3}, {From: 7, To: 7}}, 3, true}, {span.Set{{From: 1, To: 3}, {From: 7, To: 7}}, 4, false}, {span.Set{{From: 1, To: 3}, {From: 7, To: 7}}, 7, true}, {span.Set{{From: 1, To: 3}, {From: 7, To: 7}}, 8, false},
		{span.Set{{From: 3, To: 1}}, 2, false}, {span.Set{{From: 3, To: 1}}, 3, false}, {span.Set{{From: 3, To: 1}}, 1, false}, {span.Set{{From: 9, To: 8}, {From: 5, To: 6}, {From: 1, To: 9}}, 2, true}, {span.Set{{From: 7, To: 9}, {From: 1, To: 2}}, 1, true}, {span.Set{{From: 1, To: 9}, {From: 2, To: 3}}, 8, true},
	} {
		if got := span.Has(c.s, c.n); got != c.want {
			t.Errorf("Has(%v, %d): %v", c.s, c.n, got)
		}
	}
	for m := range masks {
		for i, c := range cells() {
			want := m>>i&1 == 1
			for _, n := range []uint32{c.From, c.From + (c.To-c.From)/2, c.To} {
				if got := span.Has(of(m), n); got != want {
					t.Errorf("Has(%v, %d): %v", of(m), n, got)
				}
			}
		}
	}
	if many := singles(span.MaxSpans + 9); !span.Has(many, 2*span.MaxSpans+16) || span.Has(many, 2*span.MaxSpans+17) {
		t.Error("many")
	}
}

// P4.1: all numbers of a right set are counted, also if they are more than 32 bits hold.
func TestCount(t *testing.T) {
	for _, c := range []struct {
		s    span.Set
		want int
	}{
		{nil, 0}, {span.Set{{From: 0, To: 0}}, 1}, {span.Set{{From: 1, To: 3}, {From: 5, To: 9}}, 8}, {span.Set{{From: 0, To: top}}, 1 << 32}, {span.Set{{From: 1, To: top}}, 1<<32 - 1}, {span.Set{{From: 0, To: top - 2}, {From: top, To: top}}, 1<<32 - 1}, {singles(span.MaxSpans), span.MaxSpans},
	} {
		if got, e := span.Count(c.s); got != c.want || e != api.OK {
			t.Errorf("%v: %d, %d", c.s, got, e)
		}
	}
	for m := range masks {
		if got, e := span.Count(of(m)); got != size(m) || e != api.OK {
			t.Errorf("%v: %d, %d", of(m), got, e)
		}
	}
}

// P4.3: the least number from one on is found, in whichever span it is.
func TestNext(t *testing.T) {
	ends := span.Set{{From: 1, To: 3}, {From: 7, To: 7}}
	for _, c := range []struct {
		s       span.Set
		n, want uint32
		ok      bool
	}{
		{ends, 4, 7, true}, {ends, 8, 0, false}, {ends, 0, 1, true}, {ends, 1, 1, true}, {ends, 2, 2, true}, {ends, 3, 3, true}, {ends, 7, 7, true}, {ends, top, 0, false}, {nil, 0, 0, false}, {nil, 9, 0, false},
		{span.Set{{From: 0, To: 0}}, 0, 0, true}, {span.Set{{From: 0, To: 0}}, 1, 0, false}, {span.Set{{From: 0, To: top}}, top, top, true}, {span.Set{{From: top, To: top}}, 0, top, true}, {span.Set{{From: 0, To: top - 1}}, top, 0, false},
		// Sets that are not right.
		{span.Set{{From: 7, To: 9}, {From: 1, To: 2}}, 0, 1, true}, {span.Set{{From: 7, To: 9}, {From: 1, To: 2}}, 2, 2, true}, {span.Set{{From: 7, To: 9}, {From: 1, To: 2}}, 3, 7, true}, {span.Set{{From: 8, To: 9}, {From: 2, To: 9}}, 5, 5, true}, {span.Set{{From: 2, To: 9}, {From: 8, To: 9}}, 5, 5, true},
		{span.Set{{From: 9, To: 1}}, 0, 0, false}, {span.Set{{From: 9, To: 1}}, 1, 0, false}, {span.Set{{From: 9, To: 1}}, 5, 0, false}, {span.Set{{From: 9, To: 1}}, 9, 0, false}, {span.Set{{From: 9, To: 1}, {From: 20, To: 21}}, 0, 20, true}, {span.Set{{From: 9, To: 5}, {From: 20, To: 21}, {From: 15, To: 14}}, 4, 20, true}, {span.Set{{From: 5, To: 5}, {From: 0, To: 0}}, 0, 0, true},
	} {
		if got, ok := span.Next(c.s, c.n); got != c.want || ok != c.ok {
			t.Errorf("Next(%v, %d): %d, %v; want %d, %v", c.s, c.n, got, ok, c.want, c.ok)
		}
	}
	if got, ok := span.Next(singles(span.MaxSpans+9), 2*span.MaxSpans+3); got != 2*span.MaxSpans+4 || !ok {
		t.Error("many", got, ok)
	}
}

// P4.3: from any number on the next one is that of the model, for all sets of cells.
func TestNextCells(t *testing.T) {
	for m := range masks {
		for i, c := range cells() {
			for _, n := range []uint32{c.From, c.From + (c.To-c.From)/2, c.To} {
				want, found := uint32(0), m>>i != 0
				for j := len(cells()) - 1; j >= i; j-- {
					if m>>j&1 == 1 {
						want = max(cells()[j].From, n)
					}
				}
				if got, ok := span.Next(of(m), n); got != want || ok != found {
					t.Errorf("Next(%v, %d): %d, %v; want %d, %v", of(m), n, got, ok, want, found)
				}
			}
		}
	}
}
