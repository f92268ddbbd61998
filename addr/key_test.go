package addr_test

import (
	"math"
	"testing"

	"baffle/addr"
	"baffle/api"
)

// keys are such in which each part is small, in between, and as great as it can be.
func keys() []api.Key {
	var l []api.Key
	for _, proto := range []uint8{0, 1, 255} {
		for _, src := range []uint32{0, 1 << 31, math.MaxUint32} {
			for _, dst := range []uint32{0, 1 << 24, math.MaxUint32} {
				for _, from := range []uint16{0, 1, 65535} {
					for _, to := range []uint16{0, 256, 65535} {
						l = append(l, api.Key{Proto: proto, Src: src, Dst: dst, SrcPort: from, DstPort: to})
					}
				}
			}
		}
	}
	return l
}

// P3.6: a key turned has its ends exchanged, and the same protocol.
func TestTurn(t *testing.T) {
	k := api.Key{Proto: 6, Src: 1, Dst: 2, SrcPort: 3, DstPort: 4}
	if got := addr.Turn(k); got != (api.Key{Proto: 6, Src: 2, Dst: 1, SrcPort: 4, DstPort: 3}) {
		t.Errorf("%+v", got)
	}
	if got := addr.Turn(api.Key{}); got != (api.Key{}) {
		t.Errorf("%+v", got)
	}
	if k != (api.Key{Proto: 6, Src: 1, Dst: 2, SrcPort: 3, DstPort: 4}) {
		t.Errorf("%+v", k)
	}
}

// P3.7: a key turned twice is the same, and once only if its ends are.
func TestTurnTwice(t *testing.T) {
	for _, k := range keys() {
		turned := addr.Turn(k)
		if addr.Turn(turned) != k || (turned == k) != (k.Src == k.Dst && k.SrcPort == k.DstPort) {
			t.Errorf("%+v: %+v", k, turned)
		}
	}
}

// compare compares parts, the first that differ.
func compare(a, b []uint32) int {
	for i := range a {
		if a[i] < b[i] {
			return -1
		}
		if a[i] > b[i] {
			return 1
		}
	}
	return 0
}

// inOrder returns the parts of a key as its order has them.
func inOrder(k api.Key) []uint32 {
	return []uint32{uint32(k.Proto), k.Src, uint32(k.SrcPort), k.Dst, uint32(k.DstPort)}
}

// P3.6: keys are compared by protocol, source, its port, destination and its port.
func TestCompare(t *testing.T) {
	low := api.Key{Proto: 6, Src: 5, SrcPort: 5, Dst: 5, DstPort: 5}
	for i, high := range []api.Key{
		{Proto: 7}, {Proto: 6, Src: 6}, {Proto: 6, Src: 5, SrcPort: 6}, {Proto: 6, Src: 5, SrcPort: 5, Dst: 6}, {Proto: 6, Src: 5, SrcPort: 5, Dst: 5, DstPort: 6},
	} {
		if addr.Compare(low, high) != -1 || addr.Compare(high, low) != 1 || addr.Compare(high, high) != 0 {
			t.Errorf("%d: %d, %d", i, addr.Compare(low, high), addr.Compare(high, low))
		}
	}
	for _, a := range keys() {
		for _, b := range keys() {
			if got, want := addr.Compare(a, b), compare(inOrder(a), inOrder(b)); got != want || (got == 0) != (a == b) {
				t.Fatalf("Compare(%+v, %+v): %d", a, b, got)
			}
		}
	}
}

// P3.6: the text of a key names both ends, and is read back.
func TestKeyTexts(t *testing.T) {
	for want, k := range map[string]api.Key{
		"6 10.0.0.1:80 10.0.0.2:90":                       {Proto: 6, Src: address(10, 0, 0, 1), SrcPort: 80, Dst: address(10, 0, 0, 2), DstPort: 90},
		"6 10.0.0.2:90 10.0.0.1:80":                       addr.Turn(api.Key{Proto: 6, Src: address(10, 0, 0, 1), SrcPort: 80, Dst: address(10, 0, 0, 2), DstPort: 90}),
		"0 0.0.0.0:0 0.0.0.0:0":                           {},
		"255 255.255.255.255:65535 255.255.255.255:65535": {Proto: 255, Src: math.MaxUint32, SrcPort: 65535, Dst: math.MaxUint32, DstPort: 65535},
		"1 1.2.3.4:5 6.7.8.9:10":                          {Proto: 1, Src: 0x01020304, SrcPort: 5, Dst: 0x06070809, DstPort: 10},
	} {
		text(t, k, addr.KeyText(k), api.OK, want, api.OK)
		back, e := addr.ReadKey(want)
		same(t, want, back, e, k, api.OK)
	}
}

// P3.6: every other string is no text.
func TestNoKeyTexts(t *testing.T) {
	bad := []string{
		"", " ", "  ", "x", "6", "6 ", "6 10.0.0.1:80", "6 10.0.0.1:80 ", "6 10.0.0.1:80 10.0.0.2", "6 10.0.0.1:80 10.0.0.2:", "6 10.0.0.1 10.0.0.2:90", "6 :80 10.0.0.2:90", "6 10.0.0.1:80 :90", "10.0.0.1:80 10.0.0.2:90",
		" 6 10.0.0.1:80 10.0.0.2:90", "6 10.0.0.1:80 10.0.0.2:90 ", "6  10.0.0.1:80 10.0.0.2:90", "6 10.0.0.1:80  10.0.0.2:90", "6 10.0.0.1:80 10.0.0.2:90 1", "6\t10.0.0.1:80\t10.0.0.2:90", "6 10.0.0.1:80 10.0.0.2:90\n", "6 10.0.0.1:80:80 10.0.0.2:90", "6 10.0.0.1:80 10.0.0.2:90:90",
		"tcp 10.0.0.1:80 10.0.0.2:90", "06 10.0.0.1:80 10.0.0.2:90", "256 10.0.0.1:80 10.0.0.2:90", "-6 10.0.0.1:80 10.0.0.2:90", "6 10.0.0.01:80 10.0.0.2:90", "6 10.0.0.1:080 10.0.0.2:90", "6 10.0.0.1:80 10.0.0.2:090", "6 10.0.0.1:65536 10.0.0.2:90", "6 10.0.0.1:80 10.0.0.2:65536",
		"6 10.0.0.256:80 10.0.0.2:90", "6 10.0.0.1:80 10.0.0:90", "6 10.0.0.1:* 10.0.0.2:90", "6 10.0.0.1/32:80 10.0.0.2:90", "6 10.0.0.1: 10.0.0.2:90", "6 10.0.0.1:80,10.0.0.2:90",
	}
	for _, n := range noNumbers() {
		bad = append(bad, n, n+" 1.2.3.4:5 6.7.8.9:10", "1 1.2.3."+n+":5 6.7.8.9:10", "1 1.2.3.4:"+n+" 6.7.8.9:10", "1 1.2.3.4:5 "+n+".7.8.9:10", "1 1.2.3.4:5 6.7.8.9:"+n)
	}
	for _, s := range bad {
		got, e := addr.ReadKey(s)
		same(t, s, got, e, api.Key{}, addr.ErrText)
	}
}

// P3.7: a key that is written is read back, and different ones have different texts.
func TestKeysBack(t *testing.T) {
	found := map[string]api.Key{}
	for _, k := range keys() {
		returns(t, found, k, addr.KeyText(k), addr.ReadKey)
	}
	if len(found) != 243 {
		t.Error(len(found))
	}
}
