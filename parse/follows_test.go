package parse_test

import (
	"bytes"
	"slices"
	"testing"

	"systole/api"
	"systole/frame"
	"systole/parse"
)

// streams are rows of bytes as a line that loses brings them: frames, of which some are left out, come twice, are cut off, or have bytes turned, put in or taken out; the same ones each time.
func streams(many int) [][]byte {
	var x noise
	var l [][]byte
	for range many {
		var b []byte
		seq := byte(x.upTo(256))
		for range 12 {
			b = append(b, x.harmed(made(x.frame(seq, x.upTo(4)*x.upTo(8)+1)))...)
			if x.upTo(8) > 0 {
				seq++
			}
			seq += byte(x.upTo(8) / 7)
		}
		l = append(l, b)
	}
	return l
}

// harmed is a frame's bytes as they are, mostly.
func (x *noise) harmed(b []byte) []byte {
	place := x.upTo(len(b))
	switch x.upTo(12) {
	case 0:
		return turned(b, place, byte(1<<x.upTo(8)))
	case 1:
		return b[:place]
	case 2:
		return b[place:]
	case 3:
		return slices.Delete(b, place, place+1)
	case 4:
		return slices.Insert(b, place, 0xA5)
	case 5:
		return slices.Insert(b, place, 0xA5, 0x5A, byte(x.upTo(256)), byte(x.upTo(40)), 0, 0, 0, 1, 0, 0)
	case 6:
		return append(b, byte(x.upTo(256)))
	}
	return b
}

// P7.1, P7.2: such rows are walked, and say, as the chapter words it.
func TestStreams(t *testing.T) {
	for _, b := range streams(2000) {
		isWalked(t, b)
	}
}

// P7.3: what the first bytes say, cut off anywhere, is the first of what all of them say, and their walk ends no later.
func TestCutOff(t *testing.T) {
	for _, b := range streams(100) {
		cutsAre(t, b)
	}
	inner, _, _ := hidden(t)
	outer := sealed(whole([]byte{5, 4, 0}, inner, []byte{9, 9})...)
	cutsAre(t, whole(one(4, 1), outer, one(6, 2)))
	cutsAre(t, whole(one(4, 1), turned(outer, 17, 1), one(6, 2), one(7, 3)))
	for _, g := range garbage() {
		cutsAre(t, whole(g, one(1, 2, 3), g, one(2, 4), []byte{0xA5, 0x5A}))
	}
}

// cutsAre cuts b off behind each of its bytes.
func cutsAre(t *testing.T, b []byte) {
	t.Helper()
	frames, _ := parse.Frames(b)
	events, end := parse.Events(b)
	first, found := parse.First(b)
	for n := len(b) - 1; n >= 0; n-- {
		l, to := parse.Events(b[:n])
		if len(l) > len(events) || !slices.Equal(l, events[:len(l)]) || to > end || to > n {
			t.Fatalf("Events of the first %d of % X: %v, %d; of all %v, %d", n, b, l, to, events, end)
		}
		f, last := parse.Frames(b[:n])
		if len(f) > len(frames) || !sameFrames(f, frames[:len(f)]) || last != to {
			t.Fatalf("Frames of the first %d of % X: %v, %d; of all %v; the events' walk ends at %d", n, b, f, last, frames, to)
		}
		if at, ok := parse.First(b[:n]); ok && (!found || at != first) {
			t.Fatalf("First of the first %d of % X: %d; of all %d, %t", n, b, at, first, found)
		}
		// The walk of fewer bytes ends no later than that of these.
		end = to
	}
}

// P7.3: where the walk of the first bytes ended, it can go on: what stands from there on has the frames that are still to come.
func TestGoneOnWith(t *testing.T) {
	for _, b := range streams(30) {
		all, end := parse.Frames(b)
		for n := range b {
			l, to := parse.Frames(b[:n])
			more, last := parse.Frames(b[to:])
			if !sameFrames(append(l, more...), all) || to+last != end {
				t.Fatalf("Frames of % X, cut at %d: %v, %v, %d; want %v, %d", b, n, l, more, to+last, all, end)
			}
		}
	}
}

// P7.4: each sample is one of a frame that Look finds where it stands, and that is in order; there are as many as those have.
func TestNoOtherSamples(t *testing.T) {
	for _, b := range streams(1000) {
		want := samplesOf(t, b)
		var got []api.Sample
		l, _ := parse.Events(b)
		for _, e := range l {
			if e.Kind == api.EvSample {
				got = append(got, e.Sample)
			} else if e != gap(int64(len(got))) {
				t.Fatalf("Events of % X: %v is no gap at %d", b, e, len(got))
			}
		}
		if !slices.Equal(got, want) {
			t.Fatalf("the samples of % X: %v; want %v", b, got, want)
		}
	}
}

// samplesOf goes from each First to the next one, and gathers the samples of what is in order.
func samplesOf(t *testing.T, b []byte) []api.Sample {
	t.Helper()
	var l []api.Sample
	begun, last := false, byte(0)
	for {
		at, ok := parse.First(b)
		if !ok {
			return l
		}
		f, n, e := frame.Look(b[at:])
		if e != api.OK {
			t.Fatalf("First of % X: %d, where Look says %d", b, at, e)
		}
		if !begun || f.Seq == frame.Next(last) {
			l = append(l, f.L...)
		}
		begun, last = true, f.Seq
		b = b[at+n:]
	}
}

// P7.4: a frame of which a bit is turned, whichever it is, gives no sample, and takes none from those behind it but by its number.
func TestEachBitTurned(t *testing.T) {
	var x noise
	for _, many := range []int{1, 2, 7, 32} {
		b := made(x.frame(8, many))
		for place := range 8 * len(b) {
			wrong := turned(b, place/8, 0x80>>(place%8))
			row := whole(one(7, 1), wrong, one(9, 3), one(10, 4), make([]byte, api.MaxFrame))
			eventsAre(t, row, len(row), sample(0, 1), gap(1), sample(1, 4))
			row = whole(one(7, 1), wrong, one(8, 2), one(9, 3), make([]byte, api.MaxFrame))
			eventsAre(t, row, len(row), sample(0, 1), gap(1), sample(1, 2), sample(2, 3))
		}
	}
}

// P7.5: behind bytes that are no frame's beginning, and end no walk, frames are found as they are, with a gap ahead.
func TestResumed(t *testing.T) {
	var rows [][]byte
	rows = append(rows, streams(60)...)
	rows = append(rows, one(3, 1, 2), whole(one(3, 1), one(4, 2)), whole(one(3, 1), one(5, 2), one(6, 3)), []byte{0xA5}, nil)
	for _, g := range garbage() {
		for _, b := range rows {
			isResumed(t, g, b)
			isResumed(t, whole(g, []byte{1}, g), b)
		}
	}
}

// isResumed holds what g and b say together against what b says alone.
func isResumed(t *testing.T, g, b []byte) {
	t.Helper()
	frames, end := parse.Frames(b)
	framesAre(t, whole(g, b), len(g)+end, frames...)
	events, _ := parse.Events(b)
	if len(events) > 0 && events[0].Kind == api.EvSample {
		events = append([]api.Event{gap(0)}, events...)
	}
	eventsAre(t, whole(g, b), len(g)+end, events...)
	if at, ok := parse.First(b); ok {
		firstIs(t, whole(g, b), len(g)+at)
	} else {
		nothingIn(t, whole(g, b), len(g)+end)
	}
}

// The rule R4: what is answered is new memory each time, no two lists of it share any, and the bytes stay as they were, with what lies behind them.
func TestNewMemory(t *testing.T) {
	row := whole([]byte{1}, one(1, 10, 11), one(2, 12), one(4, 13), one(5, 14, 15))
	room := append(slices.Clone(row), one(6, 16)...)
	before := slices.Clone(room)
	b := room[:len(row)]
	frames, _ := parse.Frames(b)
	events, _ := parse.Events(b)
	for range 2 {
		other, _ := parse.Frames(b)
		for i := range other {
			_ = append(other[i].L, api.Sample{V: 97})
			clear(other[i].L)
			if !sameFrames(other[i+1:], frames[i+1:]) {
				t.Fatalf("behind a change of frame %d: %v; want %v", i, other[i+1:], frames[i+1:])
			}
		}
		said, _ := parse.Events(b)
		clear(said)
		_ = append(said, gap(98))
	}
	parse.First(b)
	if !bytes.Equal(room, before) {
		t.Fatalf("behind all calls: % X; want % X", room, before)
	}
	clear(room)
	if !sameFrames(frames, []api.Frame{framed(1, 10, 11), framed(2, 12), framed(4, 13), framed(5, 14, 15)}) {
		t.Errorf("behind a change of the bytes: %v", frames)
	}
	if !slices.Equal(events, []api.Event{gap(0), sample(0, 10), sample(1, 11), sample(2, 12), gap(3), sample(3, 14), sample(4, 15)}) {
		t.Errorf("behind a change of the bytes: %v", events)
	}
}

// The rule R4: what lies behind the bytes' length is not looked at, be it a frame's rest, or what makes garbage of it.
func TestNoMoreIsLookedAt(t *testing.T) {
	b := whole(one(1, 10), one(2, 11), one(3, 12))
	for n := 9; n < 18; n++ {
		framesAre(t, b[:n], 9, framed(1, 10))
		eventsAre(t, b[:n], 9, sample(0, 10))
		firstIs(t, b[:n], 0)
	}
	wrong := []byte{0xA5, 0x5A, 0, 0, 9}
	nothingIn(t, wrong[:1], 0)
	nothingIn(t, wrong[:3], 0)
	nothingIn(t, wrong[:4], 4)
}

// The rule R5: the same calls answer the same, whatever was called ahead.
func TestNothingIsKept(t *testing.T) {
	b := whole(one(1, 10), one(3, 30), one(4, 40))
	for range 3 {
		eventsAre(t, b, 27, sample(0, 10), gap(1), sample(1, 40))
		eventsAre(t, b[9:], 18, sample(0, 30), sample(1, 40))
		eventsAre(t, one(9, 90), 9, sample(0, 90))
		nothingIn(t, b[:8], 0)
		framesAre(t, b[18:], 9, framed(4, 40))
		firstIs(t, b[1:], 8)
	}
}
