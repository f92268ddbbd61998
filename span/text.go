package span

import (
	"strconv"
	"strings"

	"baffle/addr"
	"baffle/api"
)

// Prefixes returns the prefixes that cover a set.
func Prefixes(s Set) ([]api.Prefix, api.Errno) {
	if e := wrong(s); e != api.OK {
		return nil, e
	}
	var l []api.Prefix
	for _, p := range s {
		cover, _ := addr.Cover(p.From, p.To)
		l = append(l, cover...)
	}
	return l, api.OK
}

// OfPrefixes returns the set of the addresses of prefixes.
func OfPrefixes(l []api.Prefix) (Set, api.Errno) {
	if len(l) > MaxSpans {
		return nil, api.ErrMany
	}
	spans := make([]Span, len(l))
	for i, p := range l {
		from, to, e := addr.Bounds(p)
		if e != api.OK {
			return nil, api.ErrArg
		}
		spans[i] = Span{from, to}
	}
	return Of(spans)
}

// Text returns the text of a set.
func Text(s Set) (string, api.Errno) {
	if e := wrong(s); e != api.OK {
		return "", e
	}
	texts := make([]string, len(s))
	for i, p := range s {
		texts[i] = spanText(p)
	}
	return strings.Join(texts, ","), api.OK
}

// Read returns the set of a text.
func Read(t string) (Set, api.Errno) {
	if t == "" {
		return nil, api.OK
	}
	// One text more than there may be is enough to see that there are too many.
	texts := strings.SplitN(t, ",", MaxSpans+1)
	if len(texts) > MaxSpans {
		return nil, ErrText
	}
	s := make(Set, len(texts))
	for i, text := range texts {
		p, ok := readSpan(text)
		if !ok {
			return nil, ErrText
		}
		s[i] = p
	}
	if !Right(s) {
		return nil, ErrText
	}
	return s, api.OK
}

func spanText(p Span) string {
	if p.From == p.To {
		return decimal(p.From)
	}
	return decimal(p.From) + "-" + decimal(p.To)
}

// readSpan returns the span whose text t is; it may be one that is not right.
func readSpan(t string) (Span, bool) {
	first, last, two := strings.Cut(t, "-")
	if !two {
		last = first
	}
	from, noFrom := strconv.ParseUint(first, 10, 32)
	to, noTo := strconv.ParseUint(last, 10, 32)
	p := Span{uint32(from), uint32(to)}
	// Numbers may be read with leading zeros, and a span of one number as two, but each span has one text alone.
	if noFrom != nil || noTo != nil || spanText(p) != t {
		return Span{}, false
	}
	return p, true
}

func decimal(n uint32) string { return strconv.FormatUint(uint64(n), 10) }
