package span

import (
	"iter"
	"math"
	"sort"

	"baffle/api"
)

// Union returns what one of two sets has.
func Union(a, b Set) (Set, api.Errno) {
	return combined(a, b, func(inA, inB bool) bool { return inA || inB })
}

// Common returns what both sets have.
func Common(a, b Set) (Set, api.Errno) {
	return combined(a, b, func(inA, inB bool) bool { return inA && inB })
}

// Without returns what the first set alone has.
func Without(a, b Set) (Set, api.Errno) { return combined(a, b, firstAlone) }

// Others returns what a set does not have.
func Others(s Set) (Set, api.Errno) {
	return combined(s, nil, func(in, _ bool) bool { return !in })
}

// Within reports whether the second set has all numbers of the first one.
func Within(a, b Set) (bool, api.Errno) {
	if e := wrong(a, b); e != api.OK {
		return false, e
	}
	for range taking(a, b, firstAlone) {
		return false, api.OK
	}
	return true, api.OK
}

func firstAlone(inA, inB bool) bool { return inA && !inB }

// combined returns the set of the numbers that are taken of two sets.
func combined(a, b Set, taken func(inA, inB bool) bool) (Set, api.Errno) {
	if e := wrong(a, b); e != api.OK {
		return nil, e
	}
	return built(taking(a, b, taken)), api.OK
}

// taking goes through all numbers, and yields spans of those that are taken, as they are in one of two right sets or not; in increasing order.
func taking(a, b Set, taken func(inA, inB bool) bool) iter.Seq[Span] {
	return func(yield func(Span) bool) {
		from, more := uint32(0), true
		for more {
			inA, lastA := stretch(a, from)
			inB, lastB := stretch(b, from)
			last := min(lastA, lastB)
			if taken(inA, inB) && !yield(Span{from, last}) {
				return
			}
			// Nothing follows the greatest number: after it from begins anew at 0, and is not used.
			from, more = last+1, last < math.MaxUint32
		}
	}
}

// stretch reports whether a right set has a number, and returns the last number up to which all are in it, or all are not.
func stretch(s Set, n uint32) (bool, uint32) {
	i := sort.Search(len(s), func(i int) bool { return n <= s[i].To })
	switch {
	case i == len(s):
		return false, math.MaxUint32
	case n < s[i].From:
		return false, s[i].From - 1
	}
	return true, s[i].To
}
