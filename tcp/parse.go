package tcp

import (
	"iter"

	"baffle/api"
)

// Parse returns what is known of options.
func Parse(b []byte) (Known, api.Errno) {
	if len(b) > MaxOptions {
		return Known{}, api.ErrLong
	}
	k := Known{Scale: unscaled}
	takers := k.takers()
	for o, whole := range options(b) {
		take, known := takers[o.kind]
		if !whole || known && !take(o.content) {
			return Known{}, ErrOption
		}
	}
	return k, api.OK
}

// options yields the options of some bytes up to their end, and whether they are whole; one that is not is the last, and has no content. The contents are parts of the bytes.
func options(b []byte) iter.Seq2[option, bool] {
	return func(yield func(option, bool) bool) {
		rest := b
		for len(rest) > 0 && rest[0] != kindEnd {
			n := length(rest)
			if n == 0 {
				yield(option{kind: rest[0]}, false)
				return
			}
			if !yield(option{rest[0], rest[min(head, n):n]}, true) {
				return
			}
			rest = rest[n:]
		}
	}
}

// length returns how many bytes the first option has, or 0 if it is not whole.
func length(b []byte) int {
	switch {
	case b[0] == kindNop:
		return 1
	case len(b) < head || b[1] < head || int(b[1]) > len(b):
		return 0
	}
	return int(b[1])
}

// takers returns what puts the content of each known kind into a Known, and reports whether it is right. None takes a second one: what it put there before shows that it was asked.
func (k *Known) takers() map[uint8]func([]byte) bool {
	return map[uint8]func([]byte) bool{
		kindMSS: func(c []byte) bool {
			if k.MSS != 0 || len(c) != 2 {
				return false
			}
			k.MSS = int(word(c, 0))
			return k.MSS != 0
		},
		kindScale: func(c []byte) bool {
			if k.Scale != unscaled || len(c) != 1 {
				return false
			}
			k.Scale = int(c[0])
			return k.Scale <= maxScale
		},
		kindSelective: func(c []byte) bool {
			if k.Selective || len(c) != 0 {
				return false
			}
			k.Selective = true
			return true
		},
		kindBlocks: func(c []byte) bool {
			if len(k.Blocks) > 0 || len(c)%pairSize != 0 {
				return false
			}
			for len(k.Blocks) < len(c)/pairSize {
				k.Blocks = append(k.Blocks, pair(c, len(k.Blocks)*pairSize))
			}
			return len(k.Blocks) > 0 && len(k.Blocks) <= maxPairs
		},
		kindStamp: func(c []byte) bool {
			if k.Stamped || len(c) != pairSize {
				return false
			}
			p := pair(c, 0)
			k.Stamped, k.Stamp, k.Echo = true, p[0], p[1]
			return true
		},
	}
}

func pair(b []byte, at int) [2]uint32 { return [2]uint32{number(b, at), number(b, at+4)} }
