package span_test

import (
	"slices"
	"testing"

	"baffle/api"
	"baffle/span"
)

// operation is a function of two sets, and what it does with masks.
type operation struct {
	name string
	do   func(a, b span.Set) (span.Set, api.Errno)
	mask func(a, b int) int
}

func operations() []operation {
	return []operation{
		{"Union", span.Union, func(a, b int) int { return a | b }},
		{"Common", span.Common, func(a, b int) int { return a & b }},
		{"Without", span.Without, func(a, b int) int { return a &^ b }},
	}
}

// P4.2: the sets of the document's examples, and others whose spans touch, meet or are at an end.
func TestOperations(t *testing.T) {
	for _, c := range []struct{ a, b, union, common, without string }{
		{"1-3", "4-6", "1-6", "", "1-3"}, {"1-5,9", "4-9", "1-9", "4-5,9", "1-3"}, {"4-9", "1-5,9", "1-9", "4-5,9", "6-8"}, {"", "", "", "", ""}, {"1-3", "", "1-3", "", "1-3"}, {"", "1-3", "1-3", "", ""},
		{"1-3", "5-6", "1-3,5-6", "", "1-3"}, {"5-6", "1-3", "1-3,5-6", "", "5-6"}, {"7", "7", "7", "7", ""}, {"7", "8", "7-8", "", "7"}, {"0-4294967295", "7", "0-4294967295", "7", "0-6,8-4294967295"}, {"7", "0-4294967295", "0-4294967295", "7", ""},
		{"0", "4294967295", "0,4294967295", "", "0"}, {"0-4294967294", "4294967295", "0-4294967295", "", "0-4294967294"}, {"1,3,5,7", "2,4,6", "1-7", "", "1,3,5,7"}, {"1-9", "3,5-6,9-12", "1-12", "3,5-6,9", "1-2,4,7-8"}, {"0,2,4-4294967295", "0-4294967295", "0-4294967295", "0,2,4-4294967295", ""},
	} {
		a, b := read(t, c.a), read(t, c.b)
		for i, want := range []string{c.union, c.common, c.without} {
			got, e := operations()[i].do(a, b)
			sameSet(t, operations()[i].name+" of "+c.a+" and "+c.b, got, e, read(t, want), api.OK)
		}
	}
	for s, want := range map[string]string{"1-3": "0,4-4294967295", "": "0-4294967295", "0-4294967295": "", "0": "1-4294967295", "4294967295": "0-4294967294", "0,4294967295": "1-4294967294", "1-4294967294": "0,4294967295", "2,4": "0-1,3,5-4294967295"} {
		got, e := span.Others(read(t, s))
		sameSet(t, "Others of "+s, got, e, read(t, want), api.OK)
	}
}

// P4.2: whether one set has all of another one, as in the document's sets and at the ends.
func TestWithin(t *testing.T) {
	for _, c := range []struct {
		a, b string
		want bool
	}{
		{"", "", true}, {"", "1", true}, {"1", "", false}, {"1-3", "1-3", true}, {"2", "1-3", true}, {"1-3", "2", false}, {"1-3", "1-2,4", false}, {"1,3", "1-3", true}, {"1-3", "1,3", false}, {"4294967295", "0-4294967294", false}, {"0", "1-4294967295", false}, {"0,4294967295", "0,4294967295", true}, {"0-4294967295", "0-4294967295", true}, {"0-4294967295", "0-6,8-4294967295", false},
		{"5-6,9", "1-3,5-7,9", true}, {"5-6,9-10", "1-3,5-7,9", false}, {"3-5", "1-3,5-7", false},
	} {
		if got, e := span.Within(read(t, c.a), read(t, c.b)); got != c.want || e != api.OK {
			t.Errorf("Within(%s, %s): %v, %d", c.a, c.b, got, e)
		}
	}
}

// P4.2, P4.6: all sets of cells, two by two, have the union, the common part and the rest that their masks say; so all laws of sets hold.
func TestOperationsCells(t *testing.T) {
	for a := range masks {
		for b := range masks {
			counts := 0
			for _, o := range operations() {
				got, e := o.do(of(a), of(b))
				if want := of(o.mask(a, b)); !slices.Equal(got, want) || e != api.OK {
					t.Fatalf("%s of %v and %v: %v, %d; want %v", o.name, of(a), of(b), got, e, want)
				}
				if n, _ := span.Count(got); o.name != "Without" {
					counts += n
				}
			}
			if counts != size(a)+size(b) {
				t.Fatalf("%v and %v: %d numbers", of(a), of(b), counts)
			}
			if got, e := span.Within(of(a), of(b)); got != (a&^b == 0) || e != api.OK {
				t.Fatalf("Within(%v, %v): %v, %d", of(a), of(b), got, e)
			}
		}
		got, e := span.Others(of(a))
		sameSet(t, of(a), got, e, of(masks-1-a), api.OK)
	}
}

// numbers are which of the first numbers a set has.
type numbers [200]bool

// spans returns the right set of the numbers.
func (l numbers) spans() span.Set {
	var s span.Set
	for i, in := range l {
		switch {
		case in && i > 0 && l[i-1]:
			s[len(s)-1].To++
		case in:
			s = append(s, span.Span{From: uint32(i), To: uint32(i)})
		}
	}
	return s
}

// some returns numbers that look like any: those whose places in a row of numbers have a bit.
func some(seed uint32, thick uint32) numbers {
	var l numbers
	for i := range l {
		seed = seed*1664525 + 1013904223
		l[i] = seed>>16%8 < thick
	}
	return l
}

// P4.2, P4.6: sets of many spans are put together number by number.
func TestOperationsNumbers(t *testing.T) {
	for seed := range uint32(40) {
		for thick := range uint32(9) {
			a, b := some(seed, thick), some(seed+1000, 4)
			var union, common, without numbers
			within := true
			for i := range a {
				union[i], common[i], without[i] = a[i] || b[i], a[i] && b[i], a[i] && !b[i]
				within = within && !without[i]
			}
			for i, want := range []numbers{union, common, without} {
				got, e := operations()[i].do(a.spans(), b.spans())
				sameSet(t, operations()[i].name, got, e, want.spans(), api.OK)
			}
			if got, e := span.Within(a.spans(), b.spans()); got != within || e != api.OK {
				t.Error(a.spans(), b.spans(), got, e)
			}
			others, _ := span.Others(a.spans())
			back, e := span.Others(others)
			sameSet(t, others, back, e, a.spans(), api.OK)
			if both, e := span.Common(others, a.spans()); len(both) != 0 || e != api.OK {
				t.Error(both, e)
			}
		}
	}
}

// broken is noted for a function that returns more than its error.
const broken api.Errno = -1

// errorOf returns an error, if the result that came with it is zero.
func errorOf(zero bool, e api.Errno) api.Errno {
	if zero {
		return e
	}
	return broken
}

// failures are the errors of the functions of one set.
func failures(s span.Set) map[string]api.Errno {
	errors := map[string]api.Errno{}
	n, e := span.Count(s)
	errors["Count"] = errorOf(n == 0, e)
	o, e := span.Others(s)
	errors["Others"] = errorOf(len(o) == 0, e)
	p, e := span.Prefixes(s)
	errors["Prefixes"] = errorOf(len(p) == 0, e)
	text, e := span.Text(s)
	errors["Text"] = errorOf(text == "", e)
	return errors
}

// failuresOfTwo are the errors of the functions of two sets.
func failuresOfTwo(a, b span.Set) map[string]api.Errno {
	errors := map[string]api.Errno{}
	for _, o := range operations() {
		got, e := o.do(a, b)
		errors[o.name] = errorOf(len(got) == 0, e)
	}
	within, e := span.Within(a, b)
	errors["Within"] = errorOf(!within, e)
	return errors
}

// fail checks that functions return an error, and no more than it.
func fail(t *testing.T, what any, got map[string]api.Errno, want api.Errno) {
	t.Helper()
	for name, e := range got {
		if e != want {
			t.Errorf("%s of %v: %d; want %d", name, what, e, want)
		}
	}
}

// P4.1 to P4.5: sets that are not right are no arguments, whichever of two it is.
func TestWrong(t *testing.T) {
	good := span.Set{{From: 1, To: 3}}
	for _, s := range wrongSets() {
		fail(t, s, failures(s), api.ErrArg)
		fail(t, s, failuresOfTwo(s, good), api.ErrArg)
		fail(t, s, failuresOfTwo(good, s), api.ErrArg)
		fail(t, s, failuresOfTwo(s, s), api.ErrArg)
		fail(t, s, failuresOfTwo(s, nil), api.ErrArg)
		fail(t, s, failuresOfTwo(nil, s), api.ErrArg)
	}
}

// P4.1 to P4.5: sets with too many spans are no arguments, which is asked before whether they are right.
func TestMany(t *testing.T) {
	many, wrong := singles(span.MaxSpans+1), span.Set{{From: 3, To: 1}}
	both := slices.Concat(many, wrong)
	for _, s := range []span.Set{many, both, make(span.Set, span.MaxSpans+1)} {
		fail(t, len(s), failures(s), api.ErrMany)
		for _, other := range []span.Set{nil, wrong, many, both} {
			fail(t, len(s), failuresOfTwo(s, other), api.ErrMany)
			fail(t, len(s), failuresOfTwo(other, s), api.ErrMany)
		}
	}
}

// P4.2: sets with as many spans as there may be are arguments, and results may have more.
func TestMost(t *testing.T) {
	most := singles(span.MaxSpans)
	late := make(span.Set, span.MaxSpans)
	for i := range late {
		late[i] = span.Span{From: uint32(1<<20 + 3*i), To: uint32(1<<20 + 3*i + 1)}
	}
	got, e := span.Union(most, late)
	sameSet(t, "Union", got, e, slices.Concat(most, late), api.OK)
	got, e = span.Union(late, most)
	sameSet(t, "Union turned", got, e, slices.Concat(most, late), api.OK)
	got, e = span.Common(most, late)
	sameSet(t, "Common", got, e, nil, api.OK)
	got, e = span.Without(most, late)
	sameSet(t, "Without", got, e, most, api.OK)
	got, e = span.Union(most, span.Set{{From: 0, To: 2 * span.MaxSpans}})
	sameSet(t, "one", got, e, span.Set{{From: 0, To: 2 * span.MaxSpans}}, api.OK)
	holes := make(span.Set, span.MaxSpans)
	for i := range holes {
		holes[i] = span.Span{From: uint32(2*i + 1), To: uint32(2*i + 1)}
	}
	holes[span.MaxSpans-1].To = top
	got, e = span.Others(most)
	sameSet(t, "Others", got, e, holes, api.OK)
	got, e = span.Others(late)
	if len(got) != span.MaxSpans+1 || !span.Right(got) || e != api.OK {
		t.Error(len(got), e)
	}
	if in, e := span.Within(most, most); !in || e != api.OK {
		t.Error(in, e)
	}
}
