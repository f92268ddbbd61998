package tcp_test

import (
	"bytes"
	"slices"
	"testing"

	"baffle/api"
	"baffle/tcp"
)

// spoil changes all elements of a slice, and the memory after them.
func spoil[T any](l []T, to T) {
	l = l[:cap(l)]
	for i := range l {
		l[i] = to
	}
}

// P8.1 to P8.5: arguments stay as they are, with the memory after them, and results have no part of them.
func TestShares(t *testing.T) {
	memory := slices.Concat(sealed(full(), from, to), bytes.Repeat([]byte{99}, 80))
	wantMemory := slices.Clone(memory)
	b := memory[:33]
	options := slices.Concat([]byte{5, 10}, blockBytes(1), bytes.Repeat([]byte{98}, 40))
	wantOptions := slices.Clone(options)
	data := slices.Concat([]byte{5, 6, 7}, bytes.Repeat([]byte{97}, 80))
	wantData := slices.Clone(data)
	k := known(blocks(3))
	wantBlocks := slices.Clone(k.Blocks)
	k.Blocks = k.Blocks[:2]
	h := tcp.Header{SrcPort: 1, DstPort: 2, Flags: api.ACK, Options: options[:8]}
	for range 2 {
		read, _, _ := tcp.Read(b)
		spoil(read.Options, 55)
		segment, _ := tcp.Write(h, from, to, data[:3])
		spoil(segment, 55)
		h := h
		h.Options = nil
		bare, _ := tcp.Write(h, from, to, data[:3])
		spoil(bare, 55)
		parsed, _ := tcp.Parse(options[:10])
		spoil(parsed.Blocks, [2]uint32{55, 55})
		formatted, _ := tcp.Format(k)
		spoil(formatted, 55)
		tcp.Verify(b, from, to)
		tcp.Right(k)
	}
	if !bytes.Equal(memory, wantMemory) || !bytes.Equal(options, wantOptions) || !bytes.Equal(data, wantData) || !slices.Equal(k.Blocks[:3], wantBlocks) {
		t.Errorf("% x, % x, % x, %v", memory, options, data, k.Blocks[:3])
	}
	read, _, _ := tcp.Read(b)
	segment, _ := tcp.Write(h, from, to, data[:3])
	parsed, _ := tcp.Parse(options[:10])
	formatted, _ := tcp.Format(k)
	spoil(b, 55)
	spoil(options, 55)
	spoil(data, 55)
	spoil(k.Blocks, [2]uint32{55, 55})
	if !bytes.Equal(read.Options, wantMemory[20:28]) || !bytes.Equal(segment[20:], slices.Concat(wantOptions[:8], wantData[:3])) || !slices.Equal(parsed.Blocks, wantBlocks[:1]) || !bytes.Equal(formatted[4:], blockBytes(2)) {
		t.Errorf("% x, % x, %v, % x", read.Options, segment, parsed.Blocks, formatted)
	}
}
