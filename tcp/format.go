package tcp

import (
	"bytes"

	"baffle/api"
)

// Format returns the bytes of options.
func Format(k Known) ([]byte, api.Errno) {
	if !Right(k) {
		return nil, api.ErrArg
	}
	var b []byte
	for _, o := range k.options() {
		b = append(b, o.padded()...)
	}
	if len(b) > MaxOptions {
		return nil, api.ErrLong
	}
	return b, api.OK
}

// options returns the options that a Known has, in the order in which they are written.
func (k Known) options() []option {
	var l []option
	if k.MSS != 0 {
		l = append(l, option{kindMSS, []byte{byte(k.MSS >> 8), byte(k.MSS)}})
	}
	if k.Scale != unscaled {
		l = append(l, option{kindScale, []byte{byte(k.Scale)}})
	}
	if k.Selective {
		l = append(l, option{kindSelective, nil})
	}
	if k.Stamped {
		l = append(l, option{kindStamp, pairs([2]uint32{k.Stamp, k.Echo})})
	}
	if len(k.Blocks) > 0 {
		l = append(l, option{kindBlocks, pairs(k.Blocks...)})
	}
	return l
}

// padded returns the bytes of an option, after those that make them fill whole rows.
func (o option) padded() []byte {
	n := head + len(o.content)
	b := bytes.Repeat([]byte{kindNop}, (row-n%row)%row)
	b = append(b, o.kind, byte(n))
	return append(b, o.content...)
}

// pairs returns the bytes of some pairs of numbers.
func pairs(l ...[2]uint32) []byte {
	b := make([]byte, len(l)*pairSize)
	for i, p := range l {
		putNumber(b, i*pairSize, p[0])
		putNumber(b, i*pairSize+4, p[1])
	}
	return b
}
