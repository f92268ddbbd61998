package span_test

import (
	"slices"
	"strconv"
	"strings"
	"testing"

	"baffle/addr"
	"baffle/api"
	"baffle/span"
)

// read returns the set of a text.
func read(t *testing.T, text string) span.Set {
	t.Helper()
	s, e := span.Read(text)
	if e != api.OK {
		t.Fatalf("%q: %d", text, e)
	}
	return s
}

// P4.5: a text has the spans in order, and is read back.
func TestTexts(t *testing.T) {
	for want, s := range map[string]span.Set{
		"": nil, "1-3,7": {{From: 1, To: 3}, {From: 7, To: 7}}, "0": {{From: 0, To: 0}}, "0-1": {{From: 0, To: 1}}, "0-4294967295": {{From: 0, To: top}}, "4294967295": {{From: top, To: top}}, "0,4294967294-4294967295": {{From: 0, To: 0}, {From: top - 1, To: top}},
		"9-10,99-100,1000": {{From: 9, To: 10}, {From: 99, To: 100}, {From: 1000, To: 1000}}, "1,3,5-65535,70000-16777216": {{From: 1, To: 1}, {From: 3, To: 3}, {From: 5, To: 65535}, {From: 70000, To: 16777216}},
	} {
		got, e := span.Text(s)
		if got != want || e != api.OK {
			t.Errorf("%v: %q, %d; want %q", s, got, e, want)
		}
		back, e := span.Read(want)
		sameSet(t, want, back, e, s, api.OK)
	}
}

// P4.5: what is no text of a right set is refused.
func TestNoTexts(t *testing.T) {
	bad := []string{
		"3-1", "1-2,3", "7,1", "1-1", "01", "1,", ",", ",1", ",,", "1,,3", "-", "--", "1-", "-1", "1--3", "1-3-5", "1-3-", "-1-3", "1 ", " 1", "1, 3", "1 ,3", "1-3, 7", "1 - 3", "1;3", "1.3", "1-3,7,", "1-3,7 ", "1-3\n", "\n",
		"1,1", "1,2", "1-3,3", "1-3,4", "1-3,2", "1-3,1-3", "1-5,2-3", "5-6,1-2", "0-4294967295,4294967295", "0-4294967294,4294967295", "0-4294967295,0", "0,0", "0-0", "4294967295-4294967295", "4294967295-0", "4294967295,0", "1,0",
		"4294967296", "0-4294967296", "4294967297", "4294967296-4294967297", "18446744073709551615", "18446744073709551616", "18446744073709551617", "1-18446744073709551618",
		"00", "000", "0-01", "00-1", "01-3", "1-03", "1,03", "+1", "1-+3", "-0", "+0", "1_0", "0x1", "1e1", "1.0", "a", "1a", "a1", "1-a", "*", "1-*", "\x00", "1\x00", "\xff", "é", "１", "٣", "1–3", "nil", "{}", "[1 3]",
		strings.Repeat("9", 1000), strings.Repeat("0", 1000), "1-" + strings.Repeat("9", 1000), strings.Repeat(",", 1000), strings.Repeat("-", 1000), strings.Repeat("1,", 1000), strings.Repeat(",", 100000), strings.Repeat("1-", 100000),
	}
	for _, text := range bad {
		got, e := span.Read(text)
		sameSet(t, text, got, e, nil, span.ErrText)
	}
}

// P4.5: a text has at most as many spans as the limit says.
func TestTextsMost(t *testing.T) {
	s := singles(span.MaxSpans)
	text, e := span.Text(s)
	if e != api.OK {
		t.Fatal(e)
	}
	got, e := span.Read(text)
	sameSet(t, "most", got, e, s, api.OK)
	more := strconv.Itoa(2 * span.MaxSpans)
	for _, end := range []string{",", "," + more, "," + more + ",", ",1"} {
		got, e = span.Read(text + end)
		sameSet(t, end, got, e, nil, span.ErrText)
	}
	got, e = span.Read(text + "-" + more)
	s[span.MaxSpans-1].To = 2 * span.MaxSpans
	sameSet(t, "most and wide", got, e, s, api.OK)
}

// P4.5: of all short strings of some bytes, those are texts that are written for their sets.
func TestTextsShort(t *testing.T) {
	found := 0
	var try func(text string)
	try = func(text string) {
		if s, e := span.Read(text); e == api.OK {
			found++
			if back, e := span.Text(s); back != text || e != api.OK || !span.Right(s) {
				t.Errorf("%q: %v, %q, %d", text, s, back, e)
			}
		} else if e != span.ErrText || len(s) != 0 {
			t.Errorf("%q: %v, %d", text, s, e)
		}
		if len(text) < 5 {
			for _, b := range "0129-," {
				try(text + string(b))
			}
		}
	}
	try("")
	// Each of these is the text of one set: counted by writing all sets that have such a text.
	if want := shortTexts(); found != want {
		t.Errorf("%d texts; want %d", found, want)
	}
}

// shortTexts is how many right sets have texts of at most 5 bytes with no digits but 0, 1, 2 and 9.
func shortTexts() int {
	var l []int
	for n := range 100000 {
		if strings.Trim(strconv.Itoa(n), "0129") == "" {
			l = append(l, n)
		}
	}
	return textsAfter(l, -2, 5)
}

// textsAfter is how many right sets begin at least 2 after a number, and have texts of at most so many bytes.
func textsAfter(l []int, after, room int) int {
	count := 1
	for _, from := range l {
		left := room - len(strconv.Itoa(from))
		if from < after+2 || left < 0 {
			continue
		}
		count += textsGoingOn(l, from, left)
		for _, to := range l {
			if rest := left - 1 - len(strconv.Itoa(to)); to > from && rest >= 0 {
				count += textsGoingOn(l, to, rest)
			}
		}
	}
	return count
}

// textsGoingOn is how many texts go on after a span that ends with a number: with a comma and a set that is not empty, or not at all.
func textsGoingOn(l []int, end, room int) int { return max(1, textsAfter(l, end, room-1)) }

// P4.6: what is written is read back, and different sets have different texts.
func TestTextsBack(t *testing.T) {
	found := map[string]int{}
	for m := range masks {
		text, e := span.Text(of(m))
		if other, ok := found[text]; ok || e != api.OK {
			t.Errorf("%q is %v and %v, %d", text, of(m), of(other), e)
		}
		found[text] = m
		sameSet(t, text, read(t, text), e, of(m), api.OK)
	}
}

// P4.4: the prefixes cover the spans one by one.
func TestPrefixes(t *testing.T) {
	pre := func(a uint32, n uint8) api.Prefix { return api.Prefix{Addr: a, Len: n} }
	for text, want := range map[string][]api.Prefix{
		"": nil, "1-6": {pre(1, 32), pre(2, 31), pre(4, 31), pre(6, 32)}, "0-4294967295": {pre(0, 0)}, "7": {pre(7, 32)}, "4294967295": {pre(top, 32)}, "0,2-3": {pre(0, 32), pre(2, 31)}, "167772160-184549375": {pre(10<<24, 8)},
		// No prefix is of two spans, however many numbers are between them.
		"1,3,5": {pre(1, 32), pre(3, 32), pre(5, 32)}, "0-1,4-7,9": {pre(0, 31), pre(4, 30), pre(9, 32)},
	} {
		if got, e := span.Prefixes(read(t, text)); !slices.Equal(got, want) || e != api.OK {
			t.Errorf("%q: %v, %d; want %v", text, got, e, want)
		}
	}
	wide := make(span.Set, span.MaxSpans)
	var want []api.Prefix
	for i := range wide {
		wide[i] = span.Span{From: uint32(i<<20 + 1), To: uint32(i<<20 + 1<<19)}
		cover, _ := addr.Cover(wide[i].From, wide[i].To)
		want = append(want, cover...)
	}
	if got, e := span.Prefixes(wide); !slices.Equal(got, want) || len(got) <= span.MaxSpans || e != api.OK {
		t.Error(len(got), len(want), e)
	}
}

// P4.4: prefixes make the set of their addresses, whatever their order, and whether they meet or not.
func TestOfPrefixes(t *testing.T) {
	pre := func(a uint32, n uint8) api.Prefix { return api.Prefix{Addr: a, Len: n} }
	for want, l := range map[string][]api.Prefix{
		"": nil, "0-4294967295": {pre(0, 0)}, "167772160-184549375": {pre(10<<24, 8)}, "1-6": {pre(6, 32), pre(4, 31), pre(2, 31), pre(1, 32)}, "4-7": {pre(4, 30), pre(5, 32), pre(6, 31), pre(4, 30)}, "0,4294967295": {pre(top, 32), pre(0, 32)}, "1,3": {pre(3, 32), pre(1, 32)}, "2147483648-4294967295": {pre(1<<31, 1), pre(top, 32)},
	} {
		got, e := span.OfPrefixes(l)
		sameSet(t, l, got, e, read(t, want), api.OK)
	}
	for _, l := range [][]api.Prefix{{pre(1, 31)}, {pre(1, 0)}, {pre(0, 33)}, {pre(0, 255)}, {pre(4, 30), pre(5, 31)}, {pre(5, 31), pre(4, 30)}, {pre(0, 0), pre(7, 32), pre(7, 33)}} {
		got, e := span.OfPrefixes(l)
		sameSet(t, l, got, e, nil, api.ErrArg)
	}
	most := make([]api.Prefix, span.MaxSpans)
	for i := range most {
		most[i] = pre(uint32(2*(span.MaxSpans-1-i)), 32)
	}
	got, e := span.OfPrefixes(most)
	sameSet(t, "most", got, e, singles(span.MaxSpans), api.OK)
	got, e = span.OfPrefixes(append(most, pre(0, 0)))
	sameSet(t, "many", got, e, nil, api.ErrMany)
	got, e = span.OfPrefixes(append(most, pre(1, 0)))
	sameSet(t, "many and wrong", got, e, nil, api.ErrMany)
	most[0] = pre(1, 31)
	got, e = span.OfPrefixes(most)
	sameSet(t, "most and wrong", got, e, nil, api.ErrArg)
}

// P4.6: the prefixes of a set lead back to it.
func TestPrefixesBack(t *testing.T) {
	for m := range masks {
		l, e := span.Prefixes(of(m))
		if e != api.OK {
			t.Fatal(of(m), e)
		}
		back, e := span.OfPrefixes(l)
		sameSet(t, of(m), back, e, of(m), api.OK)
		slices.Reverse(l)
		back, e = span.OfPrefixes(l)
		sameSet(t, of(m), back, e, of(m), api.OK)
	}
	for seed := range uint32(100) {
		s := some(seed, seed%9).spans()
		l, _ := span.Prefixes(s)
		back, e := span.OfPrefixes(l)
		sameSet(t, s, back, e, s, api.OK)
	}
}

// spoil overwrites a result and what follows it in its memory.
func spoil[T any](l []T, v T) {
	for i := range l[:cap(l)] {
		l[:cap(l)][i] = v
	}
}

// spare returns a list with more memory than it needs, and all of that memory.
func spare[T any](l []T, v T) ([]T, []T) {
	memory := slices.Concat(l, []T{v, v, v})
	return memory[:len(l)], memory
}

// P4.1 to P4.5: arguments stay as they are, also the memory that follows them, and no result has a part of them.
func TestShares(t *testing.T) {
	bad := span.Span{From: 9, To: 8}
	a, memoryA := spare(span.Set{{From: 1, To: 3}, {From: 5, To: 5}, {From: 20, To: 30}}, bad)
	b, memoryB := spare(span.Set{{From: 4, To: 4}, {From: 25, To: 26}}, bad)
	l, memoryL := spare([]span.Span{{From: 5, To: 7}, {From: 1, To: 2}, {From: 3, To: 3}}, bad)
	p, memoryP := spare([]api.Prefix{{Addr: 4, Len: 30}, {Addr: 0, Len: 32}}, api.Prefix{Addr: 1, Len: 7})
	before := [][]span.Span{slices.Clone(memoryA), slices.Clone(memoryB), slices.Clone(memoryL)}
	beforeP := slices.Clone(memoryP)
	for range 2 {
		for _, o := range operations() {
			for _, pair := range [][2]span.Set{{a, b}, {b, a}, {a, a}, {a, nil}, {nil, a}} {
				got, _ := o.do(pair[0], pair[1])
				spoil(got, bad)
			}
		}
		got, _ := span.Others(a)
		spoil(got, bad)
		got, _ = span.Of(l)
		spoil(got, bad)
		got, _ = span.Of(a)
		spoil(got, bad)
		got, _ = span.OfPrefixes(p)
		spoil(got, bad)
		cover, _ := span.Prefixes(a)
		spoil(cover, api.Prefix{Len: 99})
		got, _ = span.Read("1-3,7")
		spoil(got, bad)
		span.Within(a, b)
		span.Count(a)
		span.Text(a)
		span.Next(a, 6)
		span.Has(a, 6)
	}
	for i, now := range [][]span.Span{memoryA, memoryB, memoryL} {
		if !slices.Equal(now, before[i]) {
			t.Errorf("%d: %v, before it %v", i, now, before[i])
		}
	}
	if !slices.Equal(memoryP, beforeP) {
		t.Errorf("%v, before it %v", memoryP, beforeP)
	}
	again, e := span.Union(a, b)
	sameSet(t, "again", again, e, span.Set{{From: 1, To: 5}, {From: 20, To: 30}}, api.OK)
}
