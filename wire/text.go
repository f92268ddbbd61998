package wire

import "baffle/api"

const digits = "0123456789abcdef"

// Hex returns the text of bytes.
func Hex(b []byte) (string, api.Errno) {
	if len(b) > MaxBytes {
		return "", api.ErrLong
	}
	text := make([]byte, 0, 2*len(b))
	for _, c := range b {
		text = append(text, digits[c>>4], digits[c&15])
	}
	return string(text), api.OK
}

// Unhex returns the bytes of a text.
func Unhex(s string) ([]byte, api.Errno) {
	if len(s) > 2*MaxBytes {
		return nil, api.ErrLong
	}
	return parse(s)
}

// parse returns the bytes of a text that is not too long.
func parse(s string) (b []byte, e api.Errno) {
	if len(s)%2 != 0 {
		return nil, ErrText
	}
	defer func() {
		if recover() != nil {
			b, e = nil, ErrText
		}
	}()
	b = make([]byte, len(s)/2)
	for i := range b {
		b[i] = value(s[2*i])<<4 | value(s[2*i+1])
	}
	return b, api.OK
}

// value returns the value of a digit; it panics if c is none, and parse recovers.
func value(c byte) byte {
	switch {
	case '0' <= c && c <= '9':
		return c - '0'
	case 'a' <= c && c <= 'f':
		return c - 'a' + 10
	}
	panic(ErrText)
}
