package opts

import (
	"bytes"
	"iter"

	"baffle/api"
)

// Read returns the options of some bytes.
func Read(b []byte) ([]Option, api.Errno) {
	if len(b) > MaxBytes {
		return nil, api.ErrLong
	}
	var l []Option
	for o, e := range options(b) {
		switch {
		case e != api.OK:
			return nil, e
		case excluded(l, o):
			return nil, ErrTwice
		}
		l = append(l, Option{o.Kind, bytes.Clone(o.Data)})
	}
	return l, api.OK
}

// options yields the options of some bytes, up to the first error, which is yielded instead of an option. Their Data are parts of the bytes.
func options(b []byte) iter.Seq2[Option, api.Errno] {
	return func(yield func(Option, api.Errno) bool) {
		rest := b
		for len(rest) > 0 && rest[0] != KindEnd {
			o, n, e := first(rest)
			if !yield(o, e) || e != api.OK {
				return
			}
			rest = rest[n:]
		}
		if len(bytes.TrimLeft(rest, "\x00")) > 0 {
			yield(Option{}, ErrTail)
		}
	}
}

// first returns the first option of some bytes, and how many of them it has.
func first(b []byte) (Option, int, api.Errno) {
	n, e := size(b)
	if e != api.OK {
		return Option{}, 0, e
	}
	o := Option{b[0], b[min(head, n):n]}
	if !Right(o) {
		return Option{}, 0, ErrLength
	}
	return o, n, api.OK
}

// size returns how many bytes the first option has.
func size(b []byte) (int, api.Errno) {
	switch {
	case b[0] == KindNop:
		return 1, api.OK
	case len(b) < head:
		return 0, ErrCut
	case b[1] < head:
		return 0, ErrLength
	case int(b[1]) > len(b):
		return 0, ErrCut
	}
	return int(b[1]), api.OK
}
