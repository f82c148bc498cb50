package frame_test

import (
	"slices"
	"testing"

	"systole/api"
	"systole/frame"
)

// P6.2: the chapter's example, and others written out.
func TestLookWritten(t *testing.T) {
	lookIs(t, []byte("\xA5\x5A\x07\x01\x00\xFE\xFF\x52\x2E"), 9, 7, api.Sample{V: -2})
	lookIs(t, []byte("\xA5\x5A\x00\x01\x00\x00\x00\xB8\x67"), 9, 0, api.Sample{})
	lookIs(t, []byte("\xA5\x5A\x01\x01\x01\x00\x80\x51\x6B"), 9, 1, api.Sample{V: -32768, Off: true})
	lookIs(t, []byte("\xA5\x5A\xFF\x02\x01\xFF\x7F\x00\x00\x80\x8E\xDD\xA5"), 12, 255, api.Sample{V: 32767, Off: true}, api.Sample{V: -32768})
	lookIs(t, []byte("\xA5\x5A\x80\x03\x00\x00\x01\x01\xFF\xFF\x00\x01\x00\x96\x33"), 15, 128, api.Sample{V: 256}, api.Sample{V: -1, Off: true}, api.Sample{V: 1})
	zeros := slices.Concat([]byte{0xA5, 0x5A, 0x09, 0x20}, make([]byte, 96), []byte{0x22, 0x4F})
	lookIs(t, zeros, 102, 9, make([]api.Sample, 32)...)
}

// P6.2: no byte is short.
func TestLookOfNone(t *testing.T) {
	faultIs(t, api.ErrShort)
	faultIs(t, api.ErrShort, []byte{}...)
}

// P6.2: of one byte, and of two, the sign alone tells.
func TestLookOfFew(t *testing.T) {
	for first := range 256 {
		want := api.ErrSync
		if first == 0xA5 {
			want = api.ErrShort
		}
		faultIs(t, want, byte(first))
		for second := range 256 {
			want := api.ErrSync
			if first == 0xA5 && second == 0x5A {
				want = api.ErrShort
			}
			faultIs(t, want, byte(first), byte(second))
		}
	}
}

// P6.2: a frame whose first or second byte is another one.
func TestLookSync(t *testing.T) {
	for _, b := range frames() {
		for n := range 256 {
			if n != 0xA5 {
				faultIs(t, api.ErrSync, with(b, 0, byte(n))...)
			}
			if n != 0x5A {
				faultIs(t, api.ErrSync, with(b, 1, byte(n))...)
			}
		}
		faultIs(t, api.ErrSync, b[1:]...)
		faultIs(t, api.ErrSync, slices.Concat([]byte{0x5A, 0xA5}, b[2:])...)
		faultIs(t, api.ErrSync, slices.Concat([]byte{0xA5}, b)...)
	}
}

// P6.2: a number of samples that may not be, though the sum be right; and it alone, if b ends behind it.
func TestLookSize(t *testing.T) {
	for _, b := range frames() {
		for n := range 256 {
			if n >= 1 && n <= 32 {
				continue
			}
			other := with(b, 3, byte(n))
			faultIs(t, api.ErrSize, other...)
			faultIs(t, api.ErrSize, other[:4]...)
			faultIs(t, api.ErrSize, summed(other[:len(other)-2])...)
		}
	}
	faultIs(t, api.ErrSize, summed([]byte{0xA5, 0x5A, 1, 0})...)
	faultIs(t, api.ErrSize, summed(append([]byte{0xA5, 0x5A, 1, 33}, make([]byte, 99)...))...)
	faultIs(t, api.ErrSize, summed(append([]byte{0xA5, 0x5A, 1, 255}, make([]byte, 765)...))...)
}

// P6.2: each sample's flag that is neither 0 nor 1, though the sum be right; and as soon as it is there.
func TestLookFlag(t *testing.T) {
	for _, b := range frames() {
		for place := 4; place < len(b)-2; place += 3 {
			for n := 2; n < 256; n++ {
				other := with(b, place, byte(n))
				faultIs(t, api.ErrFlag, other...)
				faultIs(t, api.ErrFlag, other[:place+1]...)
				faultIs(t, api.ErrFlag, summed(other[:len(other)-2])...)
			}
		}
	}
	faultIs(t, api.ErrFlag, 0xA5, 0x5A, 1, 1, 2)
}

// P6.2: another sum: at each of its bytes, at each byte of a value, at a flag that becomes the other one, and at the number.
func TestLookCrc(t *testing.T) {
	for _, b := range frames() {
		n := len(b)
		for turn := 1; turn < 256; turn++ {
			faultIs(t, api.ErrCrc, with(b, 2, b[2]^byte(turn))...)
			faultIs(t, api.ErrCrc, with(b, n-2, b[n-2]^byte(turn))...)
			faultIs(t, api.ErrCrc, with(b, n-1, b[n-1]^byte(turn))...)
			for place := 4; place < n-2; place += 3 {
				faultIs(t, api.ErrCrc, with(b, place+1, b[place+1]^byte(turn))...)
				faultIs(t, api.ErrCrc, with(b, place+2, b[place+2]^byte(turn))...)
			}
		}
		for place := 4; place < n-2; place += 3 {
			faultIs(t, api.ErrCrc, with(b, place, b[place]^1)...)
		}
	}
}

// P6.2: of all pairs of bytes just one is the sum, the lower byte first.
func TestLookOfEachSum(t *testing.T) {
	b := []byte{0xA5, 0x5A, 0x07, 0x01, 0x00, 0xFE, 0xFF, 0, 0}
	for sum := range 1 << 16 {
		b[7], b[8] = byte(sum), byte(sum>>8)
		if sum == 0x2E52 {
			lookIs(t, b, 9, 7, api.Sample{V: -2})
		} else {
			faultIs(t, api.ErrCrc, b...)
		}
	}
}

// P6.2: a frame of which each byte by itself is each other one, held against the chapter's words; whole, and with something behind it.
func TestLookOfEachByte(t *testing.T) {
	behind := slices.Concat(madeOf(8, mixed(32)...), madeOf(9, mixed(32)...))
	for _, b := range frames() {
		for place := range b {
			for n := range 256 {
				other := with(b, place, byte(n))
				lookIsLookedAt(t, other)
				lookIsLookedAt(t, append(other, behind...))
			}
		}
	}
}

// P6.2: of two faults the one that comes first, byte by byte, is told, whichever they are.
func TestLookOfTwoFaults(t *testing.T) {
	for _, b := range frames() {
		faults := faultsIn(b)
		for i, first := range faults {
			for _, second := range faults[i:] {
				if first.place == second.place {
					continue
				}
				other := with(with(b, first.place, first.n), second.place, second.n)
				faultIs(t, first.e, other...)
			}
		}
	}
}

// P6.2: a fault ahead of where b ends is told ahead of that; a fault behind it is none.
func TestLookOfAFaultAndAnEnd(t *testing.T) {
	for _, b := range frames() {
		for _, fault := range faultsIn(b) {
			other := with(b, fault.place, fault.n)
			for end := range other {
				want := api.ErrShort
				if fault.place < end && fault.e != api.ErrCrc {
					want = fault.e
				}
				faultIs(t, want, other[:end]...)
			}
		}
	}
}

// P6.2: frames that are cut off behind each of their bytes, with something else there, held against the chapter's words.
func TestLookOfCutsAndTails(t *testing.T) {
	for _, b := range frames() {
		for end := range b {
			for _, tail := range append(tails(), b, slices.Repeat([]byte{1}, 200)) {
				lookIsLookedAt(t, slices.Concat(b[:end], tail))
			}
		}
	}
}

// fault is a byte that may not stand at a place of a frame, and what is told of it.
type fault struct {
	place int
	n     byte
	e     api.Errno
}

// faultsIn are faults of a frame's bytes, from the first place on; the sum's stand last, as the sum is held against the bytes at the last one.
func faultsIn(b []byte) []fault {
	l := []fault{
		{0, 0x00, api.ErrSync},
		{0, 0x5A, api.ErrSync},
		{1, 0xA5, api.ErrSync},
		{1, 0xFF, api.ErrSync},
		{3, 0, api.ErrSize},
		{3, 33, api.ErrSize},
		{3, 255, api.ErrSize},
	}
	for place := 4; place < len(b)-2; place += 3 {
		l = append(l, fault{place, 2, api.ErrFlag}, fault{place, 255, api.ErrFlag})
	}
	for _, place := range []int{2, 5, 6, len(b) - 2, len(b) - 1} {
		l = append(l, fault{place, b[place] ^ 0x10, api.ErrCrc})
	}
	return l
}

// P6.2: two faults at once, written out.
func TestLookOfTwoFaultsWritten(t *testing.T) {
	faultIs(t, api.ErrSync, 0x00)
	faultIs(t, api.ErrSync, 0x00, 0x00)
	faultIs(t, api.ErrSync, 0xA5, 0xA5, 0, 0)
	faultIs(t, api.ErrSync, 0x5A, 0xA5, 0, 33, 2)
	faultIs(t, api.ErrShort, 0xA5, 0x5A)
	faultIs(t, api.ErrShort, 0xA5, 0x5A, 0)
	faultIs(t, api.ErrSize, 0xA5, 0x5A, 0, 0)
	faultIs(t, api.ErrSize, 0xA5, 0x5A, 0, 33, 2)
	faultIs(t, api.ErrShort, 0xA5, 0x5A, 0, 32)
	faultIs(t, api.ErrFlag, 0xA5, 0x5A, 0, 32, 2)
	faultIs(t, api.ErrShort, 0xA5, 0x5A, 0, 2, 0, 2, 2)
	faultIs(t, api.ErrFlag, 0xA5, 0x5A, 0, 2, 0, 2, 2, 2)
	faultIs(t, api.ErrFlag, 0xA5, 0x5A, 0, 2, 0, 2, 2, 2, 0, 0, 0, 0)
	faultIs(t, api.ErrShort, 0xA5, 0x5A, 0, 1, 0, 2, 2, 2)
	faultIs(t, api.ErrCrc, 0xA5, 0x5A, 0, 1, 0, 2, 2, 2, 2)
	faultIs(t, api.ErrShort, 0xA5, 0x5A, 0, 2, 1, 2, 2, 1, 3, 3, 3)
	faultIs(t, api.ErrCrc, 0xA5, 0x5A, 0, 2, 1, 2, 2, 1, 3, 3, 3, 3)
}

// P6.2: all rows of a few bytes behind the signs, held against the chapter's words.
func TestLookOfShortRows(t *testing.T) {
	signs := []byte{0x00, 0x01, 0x02, 0x21, 0x5A, 0xA5}
	all := [][]byte{{}, {0xA5, 0x5A}}
	for range 6 {
		var longer [][]byte
		for _, b := range all {
			lookIsLookedAt(t, b)
			for _, sign := range signs {
				longer = append(longer, append(slices.Clone(b), sign))
			}
		}
		all = longer
	}
}

// The rule R4: what Look answers is new memory each time, and its bytes stay as they were, with what lies behind them.
func TestFoundIsNewMemory(t *testing.T) {
	l := mixed(6)
	room := append(madeOf(5, l...), 1, 2, 3)
	before := slices.Clone(room)
	b := room[:len(room)-2]
	f, n, _ := frame.Look(b)
	other, _, _ := frame.Look(b)
	for i := range other.L {
		other.L[i] = api.Sample{V: 99}
	}
	other.L = append(other.L, api.Sample{V: 98})
	if !slices.Equal(room, before) || !slices.Equal(f.L, l) {
		t.Fatalf("behind a change of %v: % X, %v", other, room, f)
	}
	for i := range room {
		room[i] = 0
	}
	if f.Seq != 5 || n != 24 || !slices.Equal(f.L, l) {
		t.Fatalf("behind a change of the bytes: %v, %d", f, n)
	}
}

// The rule R4: what lies behind b's length is not looked at, be it the frame's rest, or a fault.
func TestLookLooksAtNoMore(t *testing.T) {
	for _, b := range frames() {
		for end := range b {
			faultIs(t, api.ErrShort, b[:end]...)
		}
	}
	// A list that ends ahead of its second flag, behind which another one's bytes lie.
	room := []byte{0xA5, 0x5A, 0, 2, 0, 0, 0, 2, 2, 2, 2, 2}
	faultIs(t, api.ErrShort, room[:7]...)
	faultIs(t, api.ErrFlag, room[:8]...)
}
