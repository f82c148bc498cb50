package frame_test

import (
	"bytes"
	"slices"
	"testing"

	"systole/api"
	"systole/frame"
)

// P6.3: what was made is found as it was: any number of samples, whatever stands behind.
func TestThereAndBack(t *testing.T) {
	for n := 1; n <= 32; n++ {
		for _, l := range [][]api.Sample{mixed(n), make([]api.Sample, n), alike(n, api.Sample{V: -1, Off: true}), alike(n, api.Sample{V: 0x5AA5})} {
			for _, seq := range []byte{0, 1, 0x5A, 0xA5, 255} {
				b, e := frame.Make(seq, l...)
				if e != api.OK {
					t.Fatalf("Make of %d, %v: %d", seq, l, e)
				}
				for _, tail := range tails() {
					lookIs(t, slices.Concat(b, tail), len(b), seq, l...)
				}
			}
		}
	}
}

// P6.3: each value there and back, with Off and without; each number too.
func TestEachValueThereAndBack(t *testing.T) {
	for v := int32(api.Low); v <= api.High; v++ {
		for _, off := range []bool{false, true} {
			s := api.Sample{V: v, Off: off}
			b, e := frame.Make(byte(v), s)
			if e != api.OK {
				t.Fatalf("Make of %v: %d", s, e)
			}
			lookIs(t, b, len(b), byte(v), s)
		}
	}
}

// P6.3: many frames one behind the other, each one found behind the one ahead.
func TestManyThereAndBack(t *testing.T) {
	var all []byte
	seq := byte(250)
	for n := range 64 {
		b, _ := frame.Make(seq, mixed(n%32+1)...)
		all = append(all, b...)
		seq = frame.Next(seq)
	}
	seq = 250
	for n := range 64 {
		size := frame.Size(n%32 + 1)
		lookIs(t, all, size, seq, mixed(n%32+1)...)
		all = all[size:]
		seq = frame.Next(seq)
	}
	faultIs(t, api.ErrShort, all...)
}

// P6.3: what is found is made so: bytes that Look takes, whoever put them together, are Make of what it found.
func TestFoundIsMadeSo(t *testing.T) {
	for n := 1; n <= 32; n++ {
		b := []byte{0xA5, 0x5A, byte(7 * n), byte(n)}
		for i := range n {
			b = append(b, byte(i&1), byte(37*i+n), byte(91*i+5*n))
		}
		b = summed(b)
		for _, tail := range tails() {
			madeSo(t, slices.Concat(b, tail))
		}
	}
	for _, b := range frames() {
		madeSo(t, b)
	}
}

// madeSo looks at a frame, and makes it again.
func madeSo(t *testing.T, b []byte) {
	t.Helper()
	f, n, e := frame.Look(b)
	if e != api.OK {
		t.Fatalf("Look at % X: %d", b, e)
	}
	again, e := frame.Make(f.Seq, f.L...)
	if e != api.OK || !bytes.Equal(again, b[:n]) {
		t.Fatalf("% X is %v, which is made as % X, %d", b[:n], f, again, e)
	}
}

// P6.4: a frame that is cut off behind any of its bytes is short, whatever its samples are.
func TestCutOff(t *testing.T) {
	for n := 1; n <= 32; n++ {
		for _, l := range [][]api.Sample{mixed(n), make([]api.Sample, n), alike(n, api.Sample{V: -1, Off: true})} {
			b, _ := frame.Make(byte(n), l...)
			for end := range b {
				faultIs(t, api.ErrShort, b[:end]...)
				faultIs(t, api.ErrShort, slices.Clone(b[:end])...)
			}
			lookIs(t, b, len(b), byte(n), l...)
		}
	}
}

// A frame with a few bits turned within sixteen places is none: each one, each two and each three of them.
func TestFewBitsTurned(t *testing.T) {
	for _, b := range frames() {
		for place := range 8 * len(b) {
			turnedIsNone(t, b, place)
			for i := 1; i < 16; i++ {
				turnedIsNone(t, b, place, place+i)
				for j := i + 1; j < 16; j++ {
					turnedIsNone(t, b, place, place+i, place+j)
				}
			}
		}
	}
}

// A frame in which what the sum is of is turned in any way within two bytes is none.
func TestTwoBytesTurned(t *testing.T) {
	for _, b := range frames()[:3] {
		for place := 4; place < len(b)-3; place++ {
			for turn := 1; turn < 1<<16; turn++ {
				other := with(b, place, b[place]^byte(turn))
				other[place+1] ^= byte(turn >> 8)
				if _, _, e := frame.Look(other); e != api.ErrCrc && e != api.ErrFlag {
					t.Fatalf("% X, which is % X turned at %d, is a frame: %d", other, b, place, e)
				}
			}
		}
	}
}

// turnedIsNone turns the bits at some places, which are counted from the first byte's highest bit on.
func turnedIsNone(t *testing.T, b []byte, places ...int) {
	t.Helper()
	if slices.Max(places) >= 8*len(b) {
		return
	}
	other := slices.Clone(b)
	for _, place := range places {
		other[place/8] ^= 0x80 >> (place % 8)
	}
	f, n, e := frame.Look(other)
	if e == api.OK || n != 0 || f.Seq != 0 || len(f.L) != 0 {
		t.Fatalf("% X, which is % X turned at %v, is %v, %d, %d", other, b, places, f, n, e)
	}
}

// The rule R5: the same calls answer the same, whatever was called ahead.
func TestNothingIsKept(t *testing.T) {
	for range 3 {
		makeIsRefused(t, 7)
		makeIs(t, []byte("\xA5\x5A\x07\x01\x00\xFE\xFF\x52\x2E"), 7, api.Sample{V: -2})
		makeIs(t, []byte("\xA5\x5A\x00\x01\x00\x00\x00\xB8\x67"), 0, api.Sample{})
		faultIs(t, api.ErrShort, 0xA5, 0x5A, 7)
		lookIs(t, []byte("\xA5\x5A\x07\x01\x00\xFE\xFF\x52\x2E"), 9, 7, api.Sample{V: -2})
		faultIs(t, api.ErrCrc, []byte("\xA5\x5A\x07\x01\x00\xFE\xFF\x52\x2F")...)
	}
}
