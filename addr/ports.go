package addr

import (
	"math"
	"strings"

	"baffle/api"
)

// RightRange reports whether a range is right.
func RightRange(r api.Range) bool { return r.From <= r.To }

// In reports whether a range has a port. One that is not right has none, since there is nothing in between.
func In(r api.Range, port uint16) bool { return r.From <= port && port <= r.To }

// RangeText returns the text of a range.
func RangeText(r api.Range) (string, api.Errno) {
	switch {
	case !RightRange(r):
		return "", ErrRange
	case r == everyPort():
		return "*", api.OK
	case r.From == r.To:
		return decimal(r.From), api.OK
	}
	return decimal(r.From) + "-" + decimal(r.To), api.OK
}

// ReadRange returns the range of a text.
func ReadRange(s string) (api.Range, api.Errno) {
	if s == "*" {
		return everyPort(), api.OK
	}
	first, last, two := strings.Cut(s, "-")
	from, ok := number[uint16](first)
	r := api.Range{From: from, To: from}
	if two {
		to, also := number[uint16](last)
		r.To = to
		// One port and all ports have texts without a -.
		ok = ok && also && from < to && r != everyPort()
	}
	if !ok {
		return api.Range{}, ErrText
	}
	return r, api.OK
}

func everyPort() api.Range { return api.Range{To: math.MaxUint16} }
