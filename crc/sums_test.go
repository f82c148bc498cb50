package crc_test

import (
	"testing"

	"systole/crc"
)

// The chapter's example, and other texts whose sums are known.
func TestExample(t *testing.T) {
	sumIs(t, 0x29B1, []byte("123456789")...)
	sumIs(t, 0xB915, 'A')
	sumIs(t, 0xEA0B, alike(256, 'A')...)
}

// P4.1: Next at the edges: of the sums 0 and FFFF, and of sums with one bit, written out.
func TestNextEdges(t *testing.T) {
	for _, c := range []struct {
		sum  uint16
		b    byte
		want uint16
	}{
		{0x0000, 0x00, 0x0000},
		{0x0000, 0x01, 0x1021},
		{0x0000, 0x02, 0x2042},
		{0x0000, 0x80, 0x9188},
		{0x0000, 0xFF, 0x1EF0},
		{0xFFFF, 0x00, 0xE1F0},
		{0xFFFF, 0x01, 0xF1D1},
		{0xFFFF, 0x80, 0x7078},
		{0xFFFF, 0xFF, 0xFF00},
		{0x0001, 0x00, 0x0100},
		{0x0080, 0x00, 0x8000},
		{0x0100, 0x00, 0x1021},
		{0x8000, 0x00, 0x9188},
		{0x0100, 0x01, 0x0000},
		{0x8000, 0x80, 0x0000},
		{0x00FF, 0x00, 0xFF00},
		{0xFF00, 0xFF, 0x0000},
	} {
		if sum := crc.Next(c.sum, c.b); sum != c.want {
			t.Errorf("Next(%04X, %02X): %04X; want %04X", c.sum, c.b, sum, c.want)
		}
	}
}

// P4.1: a byte's step is its bits' steps, one by one: each sum, each byte.
func TestNextIsStepsOfBits(t *testing.T) {
	for sum := range 1 << 16 {
		for b := range 1 << 8 {
			got, want := crc.Next(uint16(sum), byte(b)), stepsOf(uint16(sum), byte(b))
			if got != want {
				t.Fatalf("Next(%04X, %02X): %04X; want %04X", sum, b, got, want)
			}
		}
	}
}

// P4.1: the sum of no byte is what sums begin with, however none is handed on.
func TestSumOfNone(t *testing.T) {
	sumIs(t, 0xFFFF)
	sumIs(t, 0xFFFF, []byte(nil)...)
	sumIs(t, 0xFFFF, []byte{}...)
}

// P4.1: the sum of one byte: some written out, and all.
func TestSumOfOne(t *testing.T) {
	sumIs(t, 0xE1F0, 0x00)
	sumIs(t, 0xF1D1, 0x01)
	sumIs(t, 0x7078, 0x80)
	sumIs(t, 0xFF00, 0xFF)
	for b := range 1 << 8 {
		sumIs(t, stepsOf(0xFFFF, byte(b)), byte(b))
	}
}

// P4.1: Sum is Next of all bytes, in order; held against a division.
func TestSumOfSome(t *testing.T) {
	for _, l := range append(rows(), mixed(1000)) {
		sumIs(t, rest(0xFFFF, l), l...)
		sumIs(t, next(0xFFFF, l...), l...)
	}
	sumIs(t, 0x0000, 0xFF, 0xFF)
	sumIs(t, rest(0xFFFF, []byte{1, 2}), 1, 2)
	if crc.Sum(1, 2) == crc.Sum(2, 1) {
		t.Error("the order of the bytes does not count")
	}
}

// P4.1: each byte counts, those that are 0 too, at either end.
func TestZerosCount(t *testing.T) {
	for many := range 40 {
		l := alike(many, 0)
		sumIs(t, rest(0xFFFF, l), l...)
		for more := range many {
			if crc.Sum(l...) == crc.Sum(l[:more]...) {
				t.Errorf("%d zeros have the sum of %d", many, more)
			}
		}
	}
}
