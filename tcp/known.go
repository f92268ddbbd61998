package tcp

import (
	"math"
)

// Kinds of options.
const (
	kindEnd       = 0
	kindNop       = 1
	kindMSS       = 2
	kindScale     = 3
	kindSelective = 4
	kindBlocks    = 5
	kindStamp     = 8
)

// What the bytes of options are made of.
const (
	head       = 2 // the kind and the length
	pairSize   = 8 // the bytes of two numbers
	maxPairs   = 4
	maxScale   = 14
	unscaled   = -1
	maxSegment = math.MaxUint16
)

// option is an option, without its length.
type option struct {
	kind    uint8
	content []byte
}

// Right reports whether a Known is right.
func Right(k Known) bool {
	return k.MSS >= 0 && k.MSS <= maxSegment && k.Scale >= unscaled && k.Scale <= maxScale &&
		(k.Stamped || k.Stamp == 0 && k.Echo == 0) && len(k.Blocks) <= maxPairs
}
