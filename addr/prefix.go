package addr

import (
	"iter"
	"math"
	"strings"

	"baffle/api"
)

// bits is how many bits an address has.
const bits = 32

// Right reports whether a prefix is right.
func Right(p api.Prefix) bool { return p.Len <= bits && p.Addr&^Mask(p.Len) == 0 }

// Mask returns the number whose first bits are 1.
func Mask(n uint8) uint32 { return uint32(math.MaxUint32) << (bits - min(n, bits)) }

// Cut returns the prefix of an address.
func Cut(a uint32, n uint8) (api.Prefix, api.Errno) {
	if n > bits {
		return api.Prefix{}, api.ErrArg
	}
	return api.Prefix{Addr: a & Mask(n), Len: n}, api.OK
}

// PrefixText returns the text of a prefix.
func PrefixText(p api.Prefix) (string, api.Errno) {
	if !Right(p) {
		return "", ErrPrefix
	}
	return Text(p.Addr) + "/" + decimal(p.Len), api.OK
}

// ReadPrefix returns the prefix of a text.
func ReadPrefix(s string) (api.Prefix, api.Errno) {
	first, last, _ := strings.Cut(s, "/")
	a, e := Read(first)
	n, ok := number[uint8](last)
	p := api.Prefix{Addr: a, Len: n}
	if e != api.OK || !ok || !Right(p) {
		return api.Prefix{}, ErrText
	}
	return p, api.OK
}

// Has reports whether a prefix has an address.
func Has(p api.Prefix, a uint32) bool { return Right(p) && a&Mask(p.Len) == p.Addr }

// Bounds returns the least and the greatest address of a prefix.
func Bounds(p api.Prefix) (uint32, uint32, api.Errno) {
	if !Right(p) {
		return 0, 0, ErrPrefix
	}
	return p.Addr, p.Addr | ^Mask(p.Len), api.OK
}

// Inside reports whether one prefix is inside another one.
func Inside(p, q api.Prefix) bool { return Right(p) && p.Len >= q.Len && Has(q, p.Addr) }

// Meet reports whether an address is in both prefixes. Then one of them is inside the other one.
func Meet(p, q api.Prefix) bool { return Inside(p, q) || Inside(q, p) }

// Cover returns the prefixes that cover a range of addresses.
func Cover(from, to uint32) ([]api.Prefix, api.Errno) {
	if from > to {
		return nil, api.ErrArg
	}
	var l []api.Prefix
	for p := range covering(from, to) {
		l = append(l, p)
	}
	return l, api.OK
}

// covering yields the prefixes that cover a range, from is not greater than to.
func covering(from, to uint32) iter.Seq[api.Prefix] {
	return func(yield func(api.Prefix) bool) {
		p := widest(from, to)
		// The last address may be the greatest one there is: what follows it is asked for only before it.
		for yield(p) && last(p) < to {
			p = widest(last(p)+1, to)
		}
	}
}

// widest returns the prefix with the most addresses that begins at from, and has none after to. Taken from the least address on, these are as few as there can be.
func widest(from, to uint32) api.Prefix {
	p := api.Prefix{Addr: from}
	for p.Len < bits && (!Right(p) || last(p) > to) {
		p.Len++
	}
	return p
}

// last returns the greatest address of a right prefix.
func last(p api.Prefix) uint32 {
	_, a, _ := Bounds(p)
	return a
}
