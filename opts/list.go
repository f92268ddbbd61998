package opts

import (
	"bytes"
	"slices"
)

// Find returns the first option of a kind.
func Find(l []Option, kind uint8) (Option, bool) {
	i := slices.IndexFunc(l, func(o Option) bool { return o.Kind == kind })
	if i < 0 {
		return Option{}, false
	}
	return Option{kind, bytes.Clone(l[i].Data)}, true
}

// Routed reports whether there is a route of the source.
func Routed(l []Option) bool { return slices.ContainsFunc(l, sourced) }

// sourced reports whether an option is a route of the source.
func sourced(o Option) bool { return o.Kind == KindLoose || o.Kind == KindStrict }

// excluded reports whether one of some options excludes another one.
func excluded(l []Option, o Option) bool {
	switch o.Kind {
	case KindRecord, KindStamp:
		return slices.ContainsFunc(l, func(earlier Option) bool { return earlier.Kind == o.Kind })
	case KindLoose, KindStrict:
		return Routed(l)
	}
	return false
}
