package decode_test

import (
	"slices"
	"testing"

	"systole/api"
	"systole/decode"
	"systole/frame"
	"systole/parse"
)

// The chapter's example.
func TestExample(t *testing.T) {
	b := one(7, -2)
	d := decode.New()
	for i, c := range b[:len(b)-1] {
		answers(t, d, []byte{c})
		stands(t, d, told{waits: i + 1, bytes: int64(i + 1)})
	}
	answers(t, d, b[len(b)-1:], sample(0, -2))
	stands(t, d, told{bytes: 9, samples: 1})
}

// P8.1: a new decoder has no bytes, and no two of them share any.
func TestNew(t *testing.T) {
	d, other := decode.New(), decode.New()
	stands(t, d, told{})
	answers(t, d, nil)
	stands(t, d, told{})
	answers(t, d, one(1, 10)[:5])
	stands(t, d, told{waits: 5, bytes: 5})
	stands(t, other, told{})
	stands(t, decode.New(), told{})
	answers(t, other, one(9, 90), sample(0, 90))
	answers(t, d, one(1, 10)[5:], sample(0, 10))
	answers(t, d, one(2, 20), sample(1, 20))
	answers(t, other, one(10, 100), sample(1, 100))
}

// P8.2: each call of a decoder that no call made, that is nil: nothing is done, and it stays so.
func TestNil(t *testing.T) {
	var d *decode.Decoder
	for range 2 {
		for _, b := range [][]byte{nil, {0xA5}, {1, 2, 3}, one(1, 10), whole(one(1, 10), []byte{7}, one(2, 20))} {
			if l := d.Feed(b...); l != nil {
				t.Errorf("Feed of % X, of nil: %v", b, l)
			}
			stands(t, d, told{})
		}
		if c := d.Clone(); c != nil {
			t.Errorf("Clone of nil: %v", c)
		}
		if d != nil {
			t.Error("it is not nil any more")
		}
	}
}

// P8.1: no byte, ahead of all, between frames and within one, behind garbage, and behind all: nothing comes, and nothing is answered twice.
func TestNoByte(t *testing.T) {
	d := decode.New()
	none := func(want told) {
		t.Helper()
		for range 2 {
			answers(t, d, nil)
			answers(t, d, []byte{})
			stands(t, d, want)
		}
	}
	none(told{})
	answers(t, d, one(1, 10), sample(0, 10))
	none(told{bytes: 9, samples: 1})
	answers(t, d, one(2, 20)[:4])
	none(told{waits: 4, bytes: 13, samples: 1})
	answers(t, d, one(2, 20)[4:], sample(1, 20))
	none(told{bytes: 18, samples: 2})
	answers(t, d, []byte{9, 9})
	none(told{bytes: 20, samples: 2})
	answers(t, d, one(3, 30), gap(2), sample(2, 30))
	none(told{bytes: 29, samples: 3, gaps: 1})
	answers(t, d, one(5, 50))
	none(told{bytes: 38, samples: 3, gaps: 1})
	answers(t, d, []byte{0xA5})
	none(told{waits: 1, bytes: 39, samples: 3, gaps: 1})
}

// P8.1: one whole frame with any number, of each size.
func TestWholeFrame(t *testing.T) {
	var x noise
	for seq := range 256 {
		d := decode.New()
		answers(t, d, one(byte(seq), 5, -6), sample(0, 5), sample(1, -6))
		stands(t, d, told{bytes: 12, samples: 2})
	}
	for many := 1; many <= api.MaxSamples; many++ {
		streamOf(x.frame(9, many)).isFed(t)
	}
}

// P8.1: a sample is told with all it has, also in a frame that comes in pieces, and nothing of it is in a gap.
func TestSampleIsWhole(t *testing.T) {
	l := []api.Sample{{V: -32768, Off: true}, {V: 32767}, {Off: true}, {}, {V: -1, Off: true}}
	b := whole(made(1, l...), []byte{0xFF}, made(2, l...))
	var want []api.Event
	for i, s := range slices.Concat(l, l) {
		if i == len(l) {
			want = append(want, gap(5))
		}
		want = append(want, api.Event{Kind: 2, At: int64(i), Sample: s})
	}
	answers(t, decode.New(), b, want...)
	for n := range b {
		d := decode.New()
		got := append(d.Feed(b[:n]...), d.Feed(b[n:]...)...)
		if !slices.Equal(got, want) {
			t.Fatalf("cut at %d: %v; want %v", n, got, want)
		}
	}
}

// P8.1: several frames at once, and many, round 255.
func TestSeveralFrames(t *testing.T) {
	d := decode.New()
	answers(t, d, whole(one(254, 1), one(255, 2, 3)), sample(0, 1), sample(1, 2), sample(2, 3))
	answers(t, d, whole(one(0, 4), one(1, 5), one(2, 6)), sample(3, 4), sample(4, 5), sample(5, 6))
	stands(t, d, told{bytes: 48, samples: 6})
	var b []byte
	var want []api.Event
	for i := range 3000 {
		b = append(b, one(byte(3+i), int32(i), int32(-i))...)
		want = append(want, sample(int64(6+2*i), int32(i)), sample(int64(7+2*i), int32(-i)))
	}
	answers(t, d, b, want...)
	stands(t, d, told{bytes: 48 + 3000*12, samples: 6006})
}

// P8.1: a frame that is cut behind each of its bytes: nothing, and then all of it.
func TestCutFrame(t *testing.T) {
	var x noise
	for _, many := range []int{1, 2, 31, 32} {
		s := streamOf(x.frame(byte(many), many))
		for n := range s.b {
			d := decode.New()
			answers(t, d, s.b[:n])
			stands(t, d, told{waits: n, bytes: int64(n)})
			answers(t, d, s.b[n:], s.all...)
			stands(t, d, told{bytes: int64(len(s.b)), samples: int64(many)})
		}
		s.byteByByte(t)
	}
}

// P8.1: whatever garbage there is ahead, it says nothing till a frame comes, ahead of which there is one gap then.
func TestGarbage(t *testing.T) {
	for _, g := range garbage() {
		n := int64(len(g))
		d := decode.New()
		answers(t, d, g)
		stands(t, d, told{bytes: n})
		answers(t, d, g)
		stands(t, d, told{bytes: 2 * n})
		answers(t, d, one(7, 1), gap(0), sample(0, 1))
		answers(t, d, one(8, 2), sample(1, 2))
		answers(t, d, g)
		stands(t, d, told{bytes: 3*n + 18, samples: 2, gaps: 1})
		answers(t, d, one(9, 3), gap(2), sample(2, 3))
		stands(t, d, told{bytes: 3*n + 27, samples: 3, gaps: 2})
		streamOf(whole(g, one(7, 1), g, one(8, 2))).byteByByte(t)
	}
}

// P8.1: garbage that ends in A5 or in A5 5A, as a frame may begin there, and what comes behind it.
func TestGarbageThatMayBegin(t *testing.T) {
	b := one(7, 70)
	d := decode.New()
	answers(t, d, []byte{1, 2, 0xA5})
	stands(t, d, told{waits: 1, bytes: 3})
	answers(t, d, b[1:], gap(0), sample(0, 70))
	stands(t, d, told{bytes: 11, samples: 1, gaps: 1})
	answers(t, d, []byte{1, 0xA5, 0x5A})
	stands(t, d, told{waits: 2, bytes: 14, samples: 1, gaps: 1})
	answers(t, d, one(8, 80)[2:], gap(1), sample(1, 80))
	stands(t, d, told{bytes: 21, samples: 2, gaps: 2})
	// What it seemed to begin is none, and a frame begins behind it, or with its last byte.
	answers(t, d, []byte{0xA5})
	stands(t, d, told{waits: 1, bytes: 22, samples: 2, gaps: 2})
	answers(t, d, one(9, 90), gap(2), sample(2, 90))
	answers(t, d, []byte{0xA5, 0x5A})
	answers(t, d, one(10, 100)[:1])
	stands(t, d, told{waits: 3, bytes: 34, samples: 3, gaps: 3})
	answers(t, d, one(10, 100)[1:2])
	stands(t, d, told{waits: 2, bytes: 35, samples: 3, gaps: 3})
	answers(t, d, one(10, 100)[2:], gap(3), sample(3, 100))
	answers(t, d, []byte{0xA5})
	answers(t, d, []byte{0xA5})
	stands(t, d, told{waits: 1, bytes: 44, samples: 4, gaps: 4})
	answers(t, d, []byte{0})
	stands(t, d, told{bytes: 45, samples: 4, gaps: 4})
	answers(t, d, one(11, 110), gap(4), sample(4, 110))
}

// P8.1: a frame begins within one that is none, which is seen only when its last byte has come.
func TestFrameWithinNone(t *testing.T) {
	inner := one(2, 20)
	// The inner one's bytes as values of samples: 00, and two bytes each.
	none := []byte{0xA5, 0x5A, 9, 5, 0, 1}
	d := decode.New()
	answers(t, d, one(1, 10), sample(0, 10))
	answers(t, d, none)
	stands(t, d, told{waits: 6, bytes: 15, samples: 1})
	// Its second sample's flag stands where the inner one's second byte comes.
	answers(t, d, inner, gap(1), sample(1, 20))
	stands(t, d, told{bytes: 24, samples: 2, gaps: 1})

}

// P8.1: a whole frame stands within another one's samples: it is none, if that one's sum is right, and is found, if it is wrong, as soon as the sum's last byte has come.
func TestFrameWithinFrame(t *testing.T) {
	inner := hidden()
	outer := sealed(whole([]byte{5, 4, 0}, inner, []byte{9, 9})...)
	f, _, e := frame.Look(outer)
	if e != api.OK || len(f.L) != 4 {
		t.Fatalf("% X is no frame of four samples", outer)
	}
	var want []api.Event
	for i, s := range f.L {
		want = append(want, api.Event{Kind: 2, At: int64(i), Sample: s})
	}
	d := decode.New()
	answers(t, d, outer[:17])
	c := d.Clone()
	answers(t, d, outer[17:], want...)
	stands(t, d, told{bytes: 18, samples: 4})
	v, _, _ := frame.Look(inner)
	answers(t, c, []byte{outer[17] ^ 1}, gap(0), sample(0, v.L[0].V))
	stands(t, c, told{bytes: 18, samples: 1, gaps: 1})
	// With its first byte it goes as well; behind the inner one there are bytes of garbage.
	answers(t, c, one(v.Seq+1, 6), gap(1), sample(1, 6))
	s := streamOf(whole(one(4, 1), outer, one(6, 2), outer[:17], []byte{outer[17] ^ 0x10}, one(v.Seq+1, 3)))
	s.byteByByte(t)
	for n := range s.b {
		s.isFed(t, n)
	}
}

// P8.1: frames out of order say nothing, whether they come in one piece with those around them or not.
func TestOutOfOrder(t *testing.T) {
	d := decode.New()
	answers(t, d, one(1, 10), sample(0, 10))
	answers(t, d, one(3, 30))
	answers(t, d, one(4, 40), gap(1), sample(1, 40))
	answers(t, d, one(4, 41))
	answers(t, d, one(3, 31))
	answers(t, d, one(4, 42), gap(2), sample(2, 42))
	answers(t, d, one(5, 50), sample(3, 50))
	answers(t, d, whole(one(9, 90), one(6, 60)))
	answers(t, d, one(7, 70), gap(4), sample(4, 70))
	stands(t, d, told{bytes: 90, samples: 5, gaps: 3})
	answers(t, decode.New(), whole(one(1, 10), one(3, 30), one(4, 40)), sample(0, 10), gap(1), sample(1, 40))
}

// P8.1: of two frames with any numbers, each in a piece of its own, the second one is in order just behind Next, 0 behind 255 among them.
func TestTwoOfAnyNumbers(t *testing.T) {
	for seq := range 256 {
		for other := range 256 {
			d := decode.New()
			answers(t, d, one(byte(seq), 5), sample(0, 5))
			if other == (seq+1)%256 {
				answers(t, d, one(byte(other), 6), sample(1, 6))
				answers(t, d, one(byte(other+1), 7), sample(2, 7))
				continue
			}
			answers(t, d, one(byte(other), 6))
			answers(t, d, one(byte(other+1), 7), gap(1), sample(1, 7))
		}
	}
}

// P8.1: a gap that is seen in one piece is told with the sample that comes in a later one, once, however much of it there was.
func TestGapIsToldLaterAndOnce(t *testing.T) {
	gaps := [][][]byte{
		{{9}},
		{{9}, {9, 9}, nil, {9}},
		{one(8, 80)},
		{one(8, 80), {9}, one(20, 90), {9}},
		{{9}, one(8, 80)},
		{{0xA5}, {0x5A}, {0}, {0}},
		{turned(one(2, 20), 8, 4)},
		{one(1, 10), one(1, 10)},
	}
	for _, pieces := range gaps {
		d := decode.New()
		answers(t, d, one(1, 10), sample(0, 10))
		last := byte(1)
		for _, p := range pieces {
			answers(t, d, p)
			if frames, _ := parse.Frames(p); len(frames) > 0 {
				last = frames[0].Seq
			}
		}
		if d.Gaps() != 0 {
			t.Fatalf("behind % X: %d gaps", pieces, d.Gaps())
		}
		b := one(last+1, 30, 31)
		answers(t, d, b[:7])
		answers(t, d, b[7:11])
		answers(t, d, nil)
		answers(t, d, b[11:], gap(1), sample(1, 30), sample(2, 31))
		answers(t, d, nil)
		answers(t, d, one(last+2, 40), sample(3, 40))
		if d.Gaps() != 1 || d.Samples() != 4 {
			t.Fatalf("behind % X, and two frames: %d gaps, %d samples", pieces, d.Gaps(), d.Samples())
		}
	}
}

// P8.1: a gap ahead of the first frame, in pieces as well.
func TestGapAheadOfAll(t *testing.T) {
	d := decode.New()
	answers(t, d, []byte{9})
	answers(t, d, one(200, 10)[:3])
	answers(t, d, one(200, 10)[3:], gap(0), sample(0, 10))
	answers(t, d, one(201, 20), sample(1, 20))
	stands(t, d, told{bytes: 19, samples: 2, gaps: 1})
}
