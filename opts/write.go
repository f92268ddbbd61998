package opts

import (
	"slices"

	"baffle/api"
)

// Headers have rows of so many bytes.
const row = 4

// Write returns the bytes of options.
func Write(l []Option) ([]byte, api.Errno) {
	if e := fault(l); e != api.OK {
		return nil, e
	}
	var b []byte
	for _, o := range l {
		b = append(append(b, start(o)...), o.Data...)
	}
	for len(b)%row != 0 {
		b = append(b, KindEnd)
	}
	return b, api.OK
}

// fault returns why options have no bytes.
func fault(l []Option) api.Errno {
	switch {
	case slices.ContainsFunc(l, func(o Option) bool { return !Right(o) }):
		return api.ErrArg
	case twice(l):
		return ErrTwice
	case long(l):
		return api.ErrLong
	}
	return api.OK
}

// twice reports whether two options exclude one another.
func twice(l []Option) bool {
	for i, o := range l {
		if excluded(l[:i], o) {
			return true
		}
	}
	return false
}

// long reports whether options have too many bytes.
func long(l []Option) bool {
	n := 0
	for _, o := range l {
		n += len(start(o)) + len(o.Data)
	}
	return n > MaxBytes
}

// start returns the bytes of an option before its Data.
func start(o Option) []byte {
	if o.Kind == KindNop {
		return []byte{o.Kind}
	}
	return []byte{o.Kind, uint8(head + len(o.Data))}
}
