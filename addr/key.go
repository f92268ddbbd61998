package addr

import (
	"cmp"
	"strings"

	"baffle/api"
)

// Turn returns a key turned.
func Turn(k api.Key) api.Key {
	k.Src, k.Dst = k.Dst, k.Src
	k.SrcPort, k.DstPort = k.DstPort, k.SrcPort
	return k
}

// Compare compares keys.
func Compare(a, b api.Key) int {
	order := 0
	part := func(x, y uint32) {
		if order == 0 {
			order = cmp.Compare(x, y)
		}
	}
	part(uint32(a.Proto), uint32(b.Proto))
	part(a.Src, b.Src)
	part(uint32(a.SrcPort), uint32(b.SrcPort))
	part(a.Dst, b.Dst)
	part(uint32(a.DstPort), uint32(b.DstPort))
	return order
}

// KeyText returns the text of a key.
func KeyText(k api.Key) string {
	return decimal(k.Proto) + " " + endText(k.Src, k.SrcPort) + " " + endText(k.Dst, k.DstPort)
}

// ReadKey returns the key of a text.
func ReadKey(s string) (api.Key, api.Errno) {
	first, rest, _ := strings.Cut(s, " ")
	from, to, _ := strings.Cut(rest, " ")
	proto, ok := number[uint8](first)
	src, srcPort, okSrc := readEnd(from)
	dst, dstPort, okDst := readEnd(to)
	if !ok || !okSrc || !okDst {
		return api.Key{}, ErrText
	}
	return api.Key{Proto: proto, Src: src, Dst: dst, SrcPort: srcPort, DstPort: dstPort}, api.OK
}

// endText returns the text of one end of a key.
func endText(a uint32, port uint16) string { return Text(a) + ":" + decimal(port) }

// readEnd returns the end of a key whose text s is.
func readEnd(s string) (uint32, uint16, bool) {
	first, last, _ := strings.Cut(s, ":")
	a, e := Read(first)
	port, ok := number[uint16](last)
	return a, port, ok && e == api.OK
}
