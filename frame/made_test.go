package frame_test

import (
	"bytes"
	"math"
	"slices"
	"testing"

	"systole/api"
	"systole/frame"
)

// P6.1: Size at the edges: of numbers that may not be it is 0.
func TestSize(t *testing.T) {
	for _, c := range []struct{ n, want int }{
		{math.MinInt, 0},
		{math.MinInt + 1, 0},
		{-1 << 32, 0},
		{-33, 0},
		{-32, 0},
		{-2, 0},
		{-1, 0},
		{0, 0},
		{1, 9},
		{2, 12},
		{3, 15},
		{31, 99},
		{32, 102},
		{33, 0},
		{34, 0},
		{255, 0},
		{256, 0},
		{257, 0},
		{1<<32 + 1, 0},
		{1<<62 + 1, 0},
		{math.MaxInt - 1, 0},
		{math.MaxInt, 0},
	} {
		if n := frame.Size(c.n); n != c.want {
			t.Errorf("Size of %d: %d; want %d", c.n, n, c.want)
		}
	}
	if n := frame.Size(api.MaxSamples); n != api.MaxFrame {
		t.Errorf("the greatest frame has %d bytes; want %d", n, api.MaxFrame)
	}
}

// P6.1: each sample takes three bytes more, and no other number of samples has a size.
func TestSizeOfEach(t *testing.T) {
	for n := -1000; n <= 1000; n++ {
		want := 0
		if n >= 1 && n <= 32 {
			want = 6 + 3*n
		}
		if got := frame.Size(n); got != want {
			t.Errorf("Size of %d: %d; want %d", n, got, want)
		}
	}
}

// The chapter's example, and its two bytes of the sum.
func TestMakeExample(t *testing.T) {
	makeIs(t, []byte{0xA5, 0x5A, 0x07, 0x01, 0x00, 0xFE, 0xFF, 0x52, 0x2E}, 7, api.Sample{V: -2})
}

// P6.1: frames written out.
func TestMakeWritten(t *testing.T) {
	makeIs(t, []byte("\xA5\x5A\x00\x01\x00\x00\x00\xB8\x67"), 0, api.Sample{})
	makeIs(t, []byte("\xA5\x5A\x01\x01\x01\x00\x80\x51\x6B"), 1, api.Sample{V: -32768, Off: true})
	makeIs(t, []byte("\xA5\x5A\xFF\x02\x01\xFF\x7F\x00\x00\x80\x8E\xDD"), 255, api.Sample{V: 32767, Off: true}, api.Sample{V: -32768})
	makeIs(t, []byte("\xA5\x5A\x80\x03\x00\x00\x01\x01\xFF\xFF\x00\x01\x00\x96\x33"), 128, api.Sample{V: 256}, api.Sample{V: -1, Off: true}, api.Sample{V: 1})
	zeros := slices.Concat([]byte{0xA5, 0x5A, 0x09, 0x20}, make([]byte, 96), []byte{0x22, 0x4F})
	makeIs(t, zeros, 9, make([]api.Sample, 32)...)
}

// P6.1: a frame has 1 to 32 samples; of none, however none is handed on, and of more it is refused.
func TestMakeOfSoMany(t *testing.T) {
	makeIsRefused(t, 0)
	makeIsRefused(t, 255, []api.Sample(nil)...)
	makeIsRefused(t, 7, []api.Sample{}...)
	for n := 1; n <= 32; n++ {
		makeIs(t, madeOf(byte(n), mixed(n)...), byte(n), mixed(n)...)
		makeIs(t, madeOf(0, make([]api.Sample, n)...), 0, make([]api.Sample, n)...)
	}
	// 257 and 288 are 1 and 32 modulo 256.
	for _, n := range []int{33, 34, 64, 255, 256, 257, 288, 65537, 1 << 20} {
		makeIsRefused(t, 1, make([]api.Sample, n)...)
	}
}

// P6.1: each value from Low to High, with Off and without, is made.
func TestMakeOfEachValue(t *testing.T) {
	for v := int32(api.Low); v <= api.High; v++ {
		for _, off := range []bool{false, true} {
			s := api.Sample{V: v, Off: off}
			makeIs(t, madeOf(byte(v>>3), s), byte(v>>3), s)
		}
	}
}

// P6.1: at each place of frames of each size, with Off and without, the ends may stand, and what is beyond them is refused.
func TestMakeAtEachPlace(t *testing.T) {
	for n := 1; n <= 32; n++ {
		for place := range n {
			for _, off := range []bool{false, true} {
				l := mixed(n)
				for _, v := range []int32{-32768, -32767, -1, 0, 1, 32766, 32767} {
					l[place] = api.Sample{V: v, Off: off}
					makeIs(t, madeOf(3, l...), 3, l...)
				}
				for _, v := range []int32{-32769, 32768, -32770, 32769, -65536, 65535, 65536, -65537, math.MinInt32, math.MaxInt32} {
					l[place] = api.Sample{V: v, Off: off}
					makeIsRefused(t, 3, l...)
				}
			}
		}
	}
}

// P6.1: several values that may not be, and too many samples of which one may not be.
func TestMakeOfSeveralFaults(t *testing.T) {
	makeIsRefused(t, 0, alike(32, api.Sample{V: 32768})...)
	makeIsRefused(t, 0, alike(2, api.Sample{V: -32769, Off: true})...)
	makeIsRefused(t, 0, api.Sample{V: 32768}, api.Sample{V: -32769})
	makeIsRefused(t, 0, alike(33, api.Sample{V: -32769})...)
}

// P6.1: each number stands as the third byte, and counts in the sum.
func TestMakeOfEachNumber(t *testing.T) {
	sums := map[[2]byte]bool{}
	for seq := range 256 {
		b := madeOf(byte(seq), mixed(3)...)
		makeIs(t, b, byte(seq), mixed(3)...)
		sums[[2]byte(b[len(b)-2:])] = true
	}
	if len(sums) != 256 {
		t.Errorf("256 numbers have %d sums", len(sums))
	}
}

// P6.1: Next is one more, and 0 behind 255.
func TestNext(t *testing.T) {
	for _, c := range []struct{ seq, want byte }{{0, 1}, {1, 2}, {127, 128}, {128, 129}, {253, 254}, {254, 255}, {255, 0}} {
		if seq := frame.Next(c.seq); seq != c.want {
			t.Errorf("Next of %d: %d; want %d", c.seq, seq, c.want)
		}
	}
	seq := byte(0)
	for i := range 600 {
		if int(seq) != i%256 {
			t.Fatalf("%d steps behind 0: %d", i, seq)
		}
		seq = frame.Next(seq)
	}
}

// The rule R4: what Make answers is new memory each time, and its samples stay as they were, with what lies behind them.
func TestMadeIsNewMemory(t *testing.T) {
	room := mixed(8)
	before := slices.Clone(room)
	l := room[:5]
	b, _ := frame.Make(4, l...)
	other, _ := frame.Make(4, l...)
	want := slices.Clone(b)
	for i := range other {
		other[i] ^= 0xFF
	}
	other = append(other, 1, 2, 3)
	if !slices.Equal(room, before) || !bytes.Equal(b, want) {
		t.Fatalf("behind a change of % X: %v, % X", other, room, b)
	}
	for i := range room {
		room[i] = api.Sample{}
	}
	if !bytes.Equal(b, want) {
		t.Fatalf("behind a change of the samples: % X; want % X", b, want)
	}
	makeIs(t, want, 4, before[:5]...)
}

// The rule R4: a sample behind the list's length is not looked at.
func TestMakeLooksAtNoMore(t *testing.T) {
	room := append(mixed(3), alike(40, api.Sample{V: 32768})...)
	makeIs(t, madeOf(1, mixed(3)...), 1, room[:3]...)
}
