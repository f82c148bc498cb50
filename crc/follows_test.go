package crc_test

import (
	"slices"
	"testing"

	"systole/crc"
)

// P4.3: the steps of two pieces, one behind the other, are those of both: from several sums on, cut at each place.
func TestPieces(t *testing.T) {
	for _, l := range rows() {
		for cut := range len(l) + 1 {
			first, second := l[:cut], l[cut:]
			if sum := next(crc.Sum(first...), second...); sum != crc.Sum(l...) {
				t.Fatalf("% X cut at %d: %04X; want %04X", l, cut, sum, crc.Sum(l...))
			}
			for _, from := range []uint16{0x0000, 0x0001, 0x8000, 0x1021, 0xFFFF} {
				if sum := next(next(from, first...), second...); sum != rest(from, l) {
					t.Fatalf("% X from %04X on, cut at %d: %04X; want %04X", l, from, cut, sum, rest(from, l))
				}
			}
		}
	}
}

// P4.3: three pieces, cut at each two places.
func TestThreePieces(t *testing.T) {
	l := mixed(30)
	want := rest(0xFFFF, l)
	for i := range len(l) + 1 {
		for j := i; j <= len(l); j++ {
			if sum := next(next(crc.Sum(l[:i]...), l[i:j]...), l[j:]...); sum != want {
				t.Fatalf("cut at %d and %d: %04X; want %04X", i, j, sum, want)
			}
		}
	}
}

// turned is l with the pattern's bits turned, of which the highest one lies at a place that is counted in bits from the first byte's highest one on; false, where one would lie behind the last byte.
func turned(l []byte, place int, pattern uint32) ([]byte, bool) {
	other := slices.Clone(l)
	for i := range 32 {
		if pattern>>(31-i)&1 == 0 {
			continue
		}
		at := place + i
		if at/8 >= len(l) {
			return nil, false
		}
		other[at/8] ^= 0x80 >> (at % 8)
	}
	return other, true
}

// P4.4: bits turned within sixteen: each way to do so, at each place of some bytes.
func TestTurnedWithinSixteen(t *testing.T) {
	for _, l := range [][]byte{{0x5A}, {0x00, 0xFF}, []byte("12345")} {
		sum := crc.Sum(l...)
		for place := range 8 * len(l) {
			for pattern := uint32(0x8000); pattern <= 0xFFFF; pattern++ {
				other, ok := turned(l, place, pattern<<16)
				if ok && crc.Sum(other...) == sum {
					t.Fatalf("% X and % X have one sum, %04X", l, other, sum)
				}
			}
		}
	}
}

// P4.4: the same in longer rows, of each width up to sixteen: both ends alone, all bits, and some between.
func TestTurnedInLongRows(t *testing.T) {
	for _, l := range [][]byte{alike(102, 0x00), alike(102, 0xFF), mixed(102), mixed(300)} {
		sum := crc.Sum(l...)
		for place := range 8 * len(l) {
			for wide := 1; wide <= 16; wide++ {
				all := ^uint32(0) << (32 - wide)
				ends := uint32(1)<<31 | uint32(1)<<(32-wide)
				for _, pattern := range []uint32{ends, all, ends | all&0xB5A60000} {
					other, ok := turned(l, place, pattern)
					if ok && crc.Sum(other...) == sum {
						t.Fatalf("% X, turned at %d by %08X, has the same sum, %04X", l, place, pattern, sum)
					}
				}
			}
		}
	}
}

// Sixteen is as far as P4.4 goes: of seventeen bits there is one way to turn them that no sum tells, the polynomial's own.
func TestTurnedBeyondSixteen(t *testing.T) {
	l := mixed(12)
	for place := range 8*len(l) - 16 {
		other, ok := turned(l, place, 0x11021<<15)
		if !ok || slices.Equal(l, other) || crc.Sum(other...) != crc.Sum(l...) {
			t.Fatalf("turned at %d: % X, %04X; want another row with the sum %04X", place, other, crc.Sum(other...), crc.Sum(l...))
		}
	}
}

// The rule R5: the same calls answer the same, whatever was called ahead.
func TestNothingIsKept(t *testing.T) {
	for range 3 {
		for _, l := range rows() {
			sumIs(t, rest(0xFFFF, l), l...)
			sealedIs(t, true, crc.Seal(l)...)
		}
	}
}
