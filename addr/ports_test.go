package addr_test

import (
	"testing"

	"baffle/addr"
	"baffle/api"
)

// portNumbers are those at which something may change.
func portNumbers() []uint16 {
	return []uint16{0, 1, 2, 9, 10, 79, 80, 81, 99, 100, 255, 256, 1023, 1024, 32767, 32768, 65533, 65534, 65535}
}

// P3.5: a range is right unless it ends before it begins, and has what is in between.
func TestRanges(t *testing.T) {
	for _, from := range portNumbers() {
		for _, to := range portNumbers() {
			r := api.Range{From: from, To: to}
			if got := addr.RightRange(r); got != (from <= to) {
				t.Errorf("RightRange of %v: %v", r, got)
			}
			for _, port := range portNumbers() {
				if got := addr.In(r, port); got != (from <= to && from <= port && port <= to) {
					t.Errorf("In(%v, %d): %v", r, port, got)
				}
			}
		}
	}
}

// P3.5: all ports, one port and others have texts of their own, which are read back.
func TestRangeTexts(t *testing.T) {
	for want, r := range map[string]api.Range{
		"*": {From: 0, To: 65535}, "80": {From: 80, To: 80}, "1-1023": {From: 1, To: 1023}, "0": {}, "65535": {From: 65535, To: 65535}, "0-65534": {From: 0, To: 65534}, "1-65535": {From: 1, To: 65535}, "0-1": {From: 0, To: 1}, "9-10": {From: 9, To: 10},
	} {
		s, e := addr.RangeText(r)
		text(t, r, s, e, want, api.OK)
		back, e := addr.ReadRange(want)
		same(t, want, back, e, r, api.OK)
	}
	for _, r := range []api.Range{{From: 9, To: 8}, {From: 1, To: 0}, {From: 65535, To: 0}, {From: 65535, To: 65534}} {
		s, e := addr.RangeText(r)
		text(t, r, s, e, "", addr.ErrRange)
	}
}

// P3.5: every other string is no text, be it another way to write a range.
func TestNoRangeTexts(t *testing.T) {
	bad := []string{"0-65535", "80-80", "0-0", "65535-65535", "9-8", "1-0", "65535-0", "-", "--", "1-", "-1", "1--2", "1-2-3", "1-2-", "-1-2", "**", "*-*", "* ", " *", "*-80", "80-*", "1 -2", "1- 2", "1,2", "1:2", "80/81", "1\u20132"}
	for _, n := range noNumbers() {
		bad = append(bad, n+"-65535", "0-"+n, n+"-"+n)
		if n != "*" {
			bad = append(bad, n)
		}
	}
	for _, s := range bad {
		got, e := addr.ReadRange(s)
		same(t, s, got, e, api.Range{}, addr.ErrText)
	}
}

// P3.7: a right range that is written is read back, and different ones have different texts.
func TestRangesBack(t *testing.T) {
	found := map[string]api.Range{}
	keep := func(r api.Range) {
		s, e := addr.RangeText(r)
		if !addr.RightRange(r) {
			text(t, r, s, e, "", addr.ErrRange)
			return
		}
		returns(t, found, r, s, addr.ReadRange)
	}
	for port := range 1 << 16 {
		keep(api.Range{From: uint16(port), To: uint16(port)})
		for _, other := range portNumbers() {
			keep(api.Range{From: uint16(port), To: other})
			keep(api.Range{From: other, To: uint16(port)})
		}
	}
}
