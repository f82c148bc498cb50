package parse_test

import (
	"slices"
	"testing"

	"systole/api"
	"systole/frame"
)

// P7.1: of no byte there is nothing, and the walk ends where it begins.
func TestNoByte(t *testing.T) {
	nothingIn(t, nil, 0)
	nothingIn(t, []byte{}, 0)
	nothingIn(t, one(1, 2)[:0], 0)
}

// P7.1: the first signs of a frame alone: there the walk ends.
func TestSignsAlone(t *testing.T) {
	nothingIn(t, []byte{0xA5}, 0)
	nothingIn(t, []byte{0xA5, 0x5A}, 0)
	nothingIn(t, []byte{0xA5, 0x5A, 0xA5}, 0)
	nothingIn(t, []byte{0x5A}, 1)
	nothingIn(t, []byte{0x5A, 0xA5}, 1)
	nothingIn(t, []byte{0xA5, 0xA5}, 1)
	nothingIn(t, []byte{0xA5, 0xA5, 0x5A}, 1)
}

// P7.1: frames one behind the other, written out.
func TestFramesWritten(t *testing.T) {
	b := []byte("\xA5\x5A\x07\x01\x00\xFE\xFF\x52\x2E")
	framesAre(t, b, 9, framed(7, -2))
	firstIs(t, b, 0)
	b = append(b, "\xA5\x5A\xFF\x02\x01\xFF\x7F\x00\x00\x80\x8E\xDD"...)
	other := api.Frame{Seq: 255, L: []api.Sample{{V: 32767, Off: true}, {V: -32768}}}
	framesAre(t, b, 21, framed(7, -2), other)
	framesAre(t, b[9:], 12, other)
	firstIs(t, b[8:], 1)
}

// P7.1: frames of each number of samples, with each number of their own, stand as they were made, one behind the other.
func TestManyFrames(t *testing.T) {
	var x noise
	var b []byte
	var l []api.Frame
	for i := range 1000 {
		f := x.frame(byte(x.upTo(256)), i%api.MaxSamples+1)
		l = append(l, f)
		b = append(b, made(f)...)
	}
	framesAre(t, b, len(b), l...)
	firstIs(t, b, 0)
}

// P7.1: frames that are out of order are frames of the walk as well.
func TestFramesOutOfOrder(t *testing.T) {
	b := whole(one(9, 1), one(9, 2), one(3, 3), one(8, 4), one(7, 5))
	framesAre(t, b, 45, framed(9, 1), framed(9, 2), framed(3, 3), framed(8, 4), framed(7, 5))
}

// P7.1, P7.2: a frame that is cut off behind any of its bytes ends the walk where it begins: alone, behind garbage (of which there is no gap yet), and behind a frame.
func TestFrameCutOff(t *testing.T) {
	var x noise
	for _, many := range []int{1, 2, 31, 32} {
		b := made(x.frame(0, many))
		for end := range b {
			nothingIn(t, b[:end], 0)
			nothingIn(t, whole([]byte{1, 2, 3}, b[:end]), 3)
			nothingIn(t, whole(turned(one(9, 1), 7, 1), b[:end]), 9)
			ahead := whole(one(255, 6), b[:end])
			framesAre(t, ahead, 9, framed(255, 6))
			eventsAre(t, ahead, 9, sample(0, 6))
			firstIs(t, ahead, 0)
			ahead = whole(one(255, 6), []byte{4}, b[:end])
			framesAre(t, ahead, 10, framed(255, 6))
			eventsAre(t, ahead, 10, sample(0, 6))
		}
		firstIs(t, b, 0)
	}
}

// P7.1, P7.2: of garbage alone there is neither a frame nor a gap, and the walk comes to its end.
func TestGarbageAlone(t *testing.T) {
	for _, g := range garbage() {
		nothingIn(t, g, len(g))
		for _, other := range garbage() {
			nothingIn(t, whole(g, other), len(g)+len(other))
		}
	}
}

// P7.1, P7.2: behind garbage that ends in a frame's first bytes the walk ends at those.
func TestGarbageThatEndsInSigns(t *testing.T) {
	for _, g := range garbage() {
		for _, signs := range [][]byte{{0xA5}, {0xA5, 0x5A}, {0xA5, 0x5A, 0x07}, {0xA5, 0x5A, 0x07, 0x20}} {
			nothingIn(t, whole(g, signs), len(g))
			b := whole(one(3, 8), g, signs)
			framesAre(t, b, 9+len(g), framed(3, 8))
			eventsAre(t, b, 9+len(g), sample(0, 8))
		}
	}
}

// P7.1, P7.2: garbage ahead of frames, between them and behind them: which frames there are, where the first one stands, and the gaps.
func TestGarbageAround(t *testing.T) {
	l := []api.Frame{framed(254, 10, 11), framed(255, 12), framed(0, 13)}
	for _, g := range garbage() {
		b := whole(g, made(l[0]), made(l[1]), made(l[2]))
		framesAre(t, b, len(b), l...)
		firstIs(t, b, len(g))
		eventsAre(t, b, len(b), gap(0), sample(0, 10), sample(1, 11), sample(2, 12), sample(3, 13))

		b = whole(made(l[0]), g, made(l[1]), made(l[2]))
		framesAre(t, b, len(b), l...)
		firstIs(t, b, 0)
		firstIs(t, b[1:], 11+len(g))
		eventsAre(t, b, len(b), sample(0, 10), sample(1, 11), gap(2), sample(2, 12), sample(3, 13))

		b = whole(made(l[0]), made(l[1]), made(l[2]), g)
		framesAre(t, b, len(b), l...)
		firstIs(t, b, 0)
		eventsAre(t, b, len(b), sample(0, 10), sample(1, 11), sample(2, 12), sample(3, 13))

		b = whole(g, g, made(l[0]), g, made(l[1]), g, g, made(l[2]), g)
		framesAre(t, b, len(b), l...)
		firstIs(t, b, 2*len(g))
		eventsAre(t, b, len(b), gap(0), sample(0, 10), sample(1, 11), gap(2), sample(2, 12), gap(3), sample(3, 13))
	}
}

// P7.1: a first sign just ahead of a frame is garbage by itself; so are both of them, and a head whose next byte is the frame's first one.
func TestSignsAheadOfAFrame(t *testing.T) {
	for _, ahead := range [][]byte{
		{0xA5},
		{0xA5, 0xA5},
		{0xA5, 0x5A},
		{0xA5, 0x5A, 0xA5},
		{0xA5, 0x5A, 0xA5, 0x5A},
		{0xA5, 0x5A, 0x00},
		{0xA5, 0x5A, 0x00, 0x01},
		{0xA5, 0x5A, 0x00, 0x20},
		{0xA5, 0x5A, 0x00, 0x20, 0x01, 0x00, 0x00},
	} {
		b := whole(ahead, one(200, 77))
		framesAre(t, b, len(b), framed(200, 77))
		firstIs(t, b, len(ahead))
		eventsAre(t, b, len(b), gap(0), sample(0, 77))
		isWalked(t, whole(one(199, 76), b, one(201, 78)))
	}
}

// P7.1, P7.4: a frame of which the sum, a flag, the size or a sign is wrong is garbage among good ones.
func TestWrongFrame(t *testing.T) {
	for _, wrong := range wrongs(2) {
		b := whole(one(1, 10), wrong, one(3, 11), one(4, 12))
		framesAre(t, b, len(b), framed(1, 10), framed(3, 11), framed(4, 12))
		eventsAre(t, b, len(b), sample(0, 10), gap(1), sample(1, 12))
		// Offered again.
		b = whole(one(1, 10), wrong, one(2, 13), one(3, 11))
		framesAre(t, b, len(b), framed(1, 10), framed(2, 13), framed(3, 11))
		eventsAre(t, b, len(b), sample(0, 10), gap(1), sample(1, 13), sample(2, 11))
		firstIs(t, b[1:], 8+len(wrong))
	}
}

// P7.1: a whole frame that stands within another one's samples is none while that one stands; it is none, too, while that one may yet be whole; it is one, if that one is wrong.
func TestFrameWithinAFrame(t *testing.T) {
	inner, seq, value := hidden(t)
	outer := sealed(whole([]byte{5, 4, 0}, inner, []byte{9, 9})...)
	l, end := walked(outer)
	if len(l) != 1 || l[0].f.Seq != 5 || len(l[0].f.L) != 4 || end != 18 {
		t.Fatalf("% X is no frame around another one: %v", outer, l)
	}
	framesAre(t, outer, 18, l[0].f)
	firstIs(t, outer, 0)
	for n := range outer {
		nothingIn(t, outer[:n], 0)
	}
	for _, wrong := range [][]byte{
		turned(outer, 17, 1),
		turned(outer, 2, 1),
		turned(outer, 15, 1),
		turned(outer, 3, 4),
		turned(outer, 3, 0x80),
		turned(outer, 4, 2),
		turned(outer, 1, 0x80),
		turned(outer, 0, 0x80),
	} {
		framesAre(t, wrong, 18, framed(seq, value))
		firstIs(t, wrong, 5)
		eventsAre(t, wrong, 18, gap(0), sample(0, value))
		b := whole(one(seq-1, 70), wrong, one(seq+1, 71))
		framesAre(t, b, 36, framed(seq-1, 70), framed(seq, value), framed(seq+1, 71))
		eventsAre(t, b, 36, sample(0, 70), gap(1), sample(1, value), gap(2), sample(2, 71))
		b = whole(one(4, 70), wrong, one(6, 71), one(7, 72))
		eventsAre(t, b, 45, sample(0, 70), gap(1), sample(1, 72))
	}
}

// hidden is a frame of one sample that may stand within others' bytes, one byte behind a flag: wherever another one's flag is, it has a 0 or a 1.
func hidden(t *testing.T) (b []byte, seq byte, value int32) {
	t.Helper()
	for i := range 1 << 10 {
		seq, value = byte(i&1), int32(i>>2)<<8-1<<15+int32(i>>1&1)
		b = one(seq, value)
		if b[2] <= 1 && b[5] <= 1 && b[8] <= 1 && !slices.Contains(b[2:], 0xA5) {
			return b, seq, value
		}
	}
	t.Fatal("no frame may stand within others' bytes")
	return nil, 0, 0
}

// P7.1: where the size that a frame tells goes beyond what it has, what stands behind is not swallowed, if it is no frame so.
func TestGreaterSize(t *testing.T) {
	var x noise
	for many := 1; many <= 16; many++ {
		for size := many + 1; size <= 32; size++ {
			f := x.frame(2, many)
			wrong := made(f)
			wrong[3] = byte(size)
			b := whole(one(1, 10), wrong, one(3, 11), one(4, 12), make([]byte, api.MaxFrame))
			isWalked(t, b)
			eventsAre(t, b, len(b), sample(0, 10), gap(1), sample(1, 12))
		}
	}
}

// P7.1: a row of signs alone, however long it is, is walked to the last place at which a frame may begin.
func TestLongRows(t *testing.T) {
	const many = 1 << 20
	nothingIn(t, slices.Repeat([]byte{0xA5}, many), many-1)
	nothingIn(t, slices.Repeat([]byte{0xA5, 0x5A}, many/2), many-2)
	nothingIn(t, slices.Repeat([]byte{0xA5, 0x5A, 0x01, 0x00}, many/4), many)
	// The third flag that is looked for is the third row's first sign: ahead of the last two rows it is there.
	nothingIn(t, slices.Repeat([]byte{0xA5, 0x5A, 0x01, 0x20, 0x00}, many/5), many/5*5-10)
	b := slices.Repeat(one(6, 1, 2), many/12)
	l, end := walked(b)
	if len(l) != many/12 || end != len(b) {
		t.Fatalf("%d frames, which end at %d", len(l), end)
	}
	isWalked(t, b)
}

// P7.1: all rows of a few bytes from among those that a frame has, ahead of a frame and of none, are walked as the chapter words it.
func TestShortRows(t *testing.T) {
	behind := one(1, 0x5AA5-1<<15, 1)
	signs := []byte{0x00, 0x01, 0x02, 0x5A, 0xA5}
	rows := [][]byte{{}}
	for range 7 {
		var longer [][]byte
		for _, row := range rows {
			isWalked(t, row)
			isWalked(t, whole(row, behind))
			for _, sign := range signs {
				longer = append(longer, append(slices.Clone(row), sign))
			}
		}
		rows = longer
	}
}

// P7.1: First is where Look finds a frame, also of the greatest one.
func TestFirstOfTheGreatest(t *testing.T) {
	var x noise
	for ahead := range 120 {
		b := whole(make([]byte, ahead), made(x.frame(9, 32)), one(10, 1))
		firstIs(t, b, ahead)
		firstIs(t, b[:ahead+102], ahead)
		nothingIn(t, b[:ahead+101], ahead)
		if _, n, e := frame.Look(b[ahead:]); n != api.MaxFrame || e != api.OK {
			t.Fatalf("Look at %d: %d, %d", ahead, n, e)
		}
	}
}
