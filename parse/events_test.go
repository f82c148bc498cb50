package parse_test

import (
	"testing"

	"systole/api"
	"systole/parse"
)

// The chapter's example.
func TestExample(t *testing.T) {
	b := whole(one(1, 10), one(3, 30), one(4, 40))
	eventsAre(t, b, 27, sample(0, 10), gap(1), sample(1, 40))
	framesAre(t, b, 27, framed(1, 10), framed(3, 30), framed(4, 40))
	firstIs(t, b, 0)
}

// The chapter's example, and what may stand behind it.
func TestExampleAndMore(t *testing.T) {
	b := whole(one(1, 10), one(3, 30), one(4, 40))
	eventsAre(t, whole(b, one(5, 50)), 36, sample(0, 10), gap(1), sample(1, 40), sample(2, 50))
	eventsAre(t, whole(b, one(3, 31)), 36, sample(0, 10), gap(1), sample(1, 40))
	eventsAre(t, whole(b, one(3, 31), one(4, 41)), 45, sample(0, 10), gap(1), sample(1, 40), gap(2), sample(2, 41))
	eventsAre(t, whole(b, one(3, 31), one(5, 50)), 45, sample(0, 10), gap(1), sample(1, 40))
	eventsAre(t, whole(b, one(5, 50), one(3, 31)), 45, sample(0, 10), gap(1), sample(1, 40), sample(2, 50))
	eventsAre(t, whole(b, one(5, 50), one(3, 31), one(6, 60)), 54, sample(0, 10), gap(1), sample(1, 40), sample(2, 50))
	eventsAre(t, whole(b, one(5, 50), one(3, 31), one(4, 41)), 54, sample(0, 10), gap(1), sample(1, 40), sample(2, 50), gap(3), sample(3, 41))
}

// P7.2: the first frame is in order with any number, and there is no gap ahead of it.
func TestFirstOfAnyNumber(t *testing.T) {
	for seq := range 256 {
		eventsAre(t, one(byte(seq), 5, 6), 12, sample(0, 5), sample(1, 6))
		eventsAre(t, whole([]byte{9}, one(byte(seq), 5, 6)), 13, gap(0), sample(0, 5), sample(1, 6))
	}
}

// P7.2: of two frames with any numbers the second one is in order just behind Next, 0 behind 255 among them; of any other there is nothing.
func TestTwoOfAnyNumbers(t *testing.T) {
	for seq := range 256 {
		for other := range 256 {
			b := whole(one(byte(seq), 5), one(byte(other), 6))
			if other == (seq+1)%256 {
				eventsAre(t, b, 18, sample(0, 5), sample(1, 6))
			} else {
				eventsAre(t, b, 18, sample(0, 5))
				eventsAre(t, whole(b, one(byte(other+1), 7)), 27, sample(0, 5), gap(1), sample(1, 7))
			}
		}
	}
}

// P7.2: numbers on and on, round 255 several times: no gap anywhere, and each sample behind the one ahead.
func TestManyInOrder(t *testing.T) {
	var x noise
	var b []byte
	var want []api.Event
	for i := range 2000 {
		f := x.frame(byte(100+i), i%32+1)
		b = append(b, made(f)...)
		for _, s := range f.L {
			want = append(want, api.Event{Kind: api.EvSample, At: int64(len(want)), Sample: s})
		}
	}
	eventsAre(t, b, len(b), want...)
}

// P7.2: the same number twice, and what comes behind it.
func TestTheSameTwice(t *testing.T) {
	b := whole(one(7, 1), one(7, 2))
	eventsAre(t, b, 18, sample(0, 1))
	eventsAre(t, whole(b, one(8, 3)), 27, sample(0, 1), gap(1), sample(1, 3))
	eventsAre(t, whole(b, one(7, 3)), 27, sample(0, 1))
	eventsAre(t, whole(b, one(7, 3), one(8, 4), one(9, 5)), 45, sample(0, 1), gap(1), sample(1, 4), sample(2, 5))
}

// P7.2: a number left out, at the turn to 0 as well.
func TestOneLeftOut(t *testing.T) {
	for seq := range 256 {
		s := byte(seq)
		b := whole(one(s, 1, 2), one(s+2, 3, 4), one(s+3, 5, 6), one(s+4, 7, 8))
		eventsAre(t, b, 48, sample(0, 1), sample(1, 2), gap(2), sample(2, 5), sample(3, 6), sample(4, 7), sample(5, 8))
		// It is not the number left out that is waited for.
		b = whole(one(s, 1), one(s+2, 2), one(s+1, 3), one(s+2, 4))
		eventsAre(t, b, 36, sample(0, 1), gap(1), sample(1, 4))
	}
}

// P7.2: of frames out of order, one behind the other, there is nothing, and ahead of the next one in order there is one gap.
func TestSeveralOutOfOrder(t *testing.T) {
	b := whole(one(1, 1), one(3, 2), one(7, 3))
	eventsAre(t, b, 27, sample(0, 1))
	eventsAre(t, whole(b, one(8, 4)), 36, sample(0, 1), gap(1), sample(1, 4))
	eventsAre(t, whole(b, one(8, 4), one(9, 5)), 45, sample(0, 1), gap(1), sample(1, 4), sample(2, 5))
	eventsAre(t, whole(b, one(4, 4), one(2, 5), one(3, 6)), 54, sample(0, 1), gap(1), sample(1, 6))
	// Each frame against the one ahead of it, not against the last one in order.
	eventsAre(t, whole(one(1, 1), one(9, 2), one(2, 3), one(3, 4)), 36, sample(0, 1), gap(1), sample(1, 4))
	eventsAre(t, whole(one(1, 1), one(0, 2), one(1, 3), one(2, 4)), 36, sample(0, 1), gap(1), sample(1, 3), sample(2, 4))
}

// P7.2: garbage and frames out of order together are one gap, in whichever order they come, and garbage alone is one though the numbers go on.
func TestOneGapForAll(t *testing.T) {
	g := []byte{1, 2}
	eventsAre(t, whole(one(1, 1), g, one(2, 2)), 20, sample(0, 1), gap(1), sample(1, 2))
	eventsAre(t, whole(one(1, 1), g, one(3, 2)), 20, sample(0, 1))
	eventsAre(t, whole(one(1, 1), g, one(3, 2), one(4, 3)), 29, sample(0, 1), gap(1), sample(1, 3))
	eventsAre(t, whole(one(1, 1), one(3, 2), g, one(4, 3)), 29, sample(0, 1), gap(1), sample(1, 3))
	eventsAre(t, whole(one(1, 1), g, one(3, 2), g, one(4, 3), g), 33, sample(0, 1), gap(1), sample(1, 3))
	eventsAre(t, whole(one(1, 1), g, g, one(3, 2), g, one(5, 3), g, one(6, 4), one(7, 5)), 53, sample(0, 1), gap(1), sample(1, 4), sample(2, 5))
	eventsAre(t, whole(g, one(1, 1), one(3, 2), one(4, 3), g, one(5, 4)), 40, gap(0), sample(0, 1), gap(1), sample(1, 3), gap(2), sample(2, 4))
}

// P7.2: each event's At is how many samples are ahead of it; gaps don't count, nor do frames, nor what is out of order.
func TestAt(t *testing.T) {
	b := whole([]byte{0}, one(1, 1, 2, 3), one(2, 4), []byte{0}, one(3, 5, 6), one(9, 7, 8, 9), one(10, 10), one(11, 11), []byte{0, 0}, one(12, 12))
	l, end := parse.Events(b)
	ats := []int64{0, 0, 1, 2, 3, 4, 4, 5, 6, 6, 7, 8, 8}
	kinds := []int{1, 2, 2, 2, 2, 1, 2, 2, 1, 2, 2, 1, 2}
	if len(l) != len(ats) || end != len(b) {
		t.Fatalf("%v, %d", l, end)
	}
	for i, e := range l {
		if e.At != ats[i] || e.Kind != kinds[i] {
			t.Errorf("event %d: %v; want the kind %d at %d", i, e, kinds[i], ats[i])
		}
	}
}

// P7.2: a sample's event has all of it, and a gap has nothing but its kind and its At, whatever stands ahead of it and behind it.
func TestSamplesAndGaps(t *testing.T) {
	ahead := api.Frame{Seq: 1, L: []api.Sample{{V: -32768, Off: true}, {V: 32767}, {Off: true}}}
	behind := api.Frame{Seq: 2, L: []api.Sample{{V: 32767, Off: true}, {}, {V: -1}}}
	var want []api.Event
	for i, s := range ahead.L {
		want = append(want, api.Event{Kind: 2, At: int64(i), Sample: s})
	}
	want = append(want, api.Event{Kind: 1, At: 3})
	for i, s := range behind.L {
		want = append(want, api.Event{Kind: 2, At: int64(3 + i), Sample: s})
	}
	eventsAre(t, whole(made(ahead), []byte{0xFF}, made(behind)), 31, want...)
}

// P7.2: each sample's value, with its lead off and on, is told as it was made.
func TestEachValue(t *testing.T) {
	var b []byte
	var want []api.Event
	seq := byte(0)
	for v := int32(api.Low); v <= api.High; v++ {
		for _, off := range []bool{false, true} {
			s := api.Sample{V: v, Off: off}
			b = append(b, made(api.Frame{Seq: seq, L: []api.Sample{s}})...)
			want = append(want, api.Event{Kind: 2, At: int64(len(want)), Sample: s})
			seq++
		}
	}
	eventsAre(t, b, len(b), want...)
}

// part is bytes of which it is known what they are: a frame, or garbage (of no number).
type part struct {
	b   []byte
	seq int
	v   []int32
}

// parts are the parts of which TestAllWays makes rows.
func parts() []part {
	l := []part{
		{b: []byte{7}, seq: -1},
		{b: []byte{0xA5, 0x5A, 0x01, 0x00}, seq: -1},
		{b: turned(one(0, 5), 8, 2), seq: -1},
	}
	for i, seq := range []int{254, 255, 0, 1} {
		v := []int32{int32(i + 1), int32(-i)}[:i%2+1]
		l = append(l, part{one(byte(seq), v...), seq, v})
	}
	return l
}

// P7.2: each row of up to 5 parts says what those parts say.
func TestAllWays(t *testing.T) {
	rows := [][]part{nil}
	for range 6 {
		var longer [][]part
		for _, row := range rows {
			saysItsParts(t, row)
			for _, p := range parts() {
				longer = append(longer, append(row[:len(row):len(row)], p))
			}
		}
		rows = longer
	}
}

// saysItsParts holds a row's frames and events against its parts.
func saysItsParts(t *testing.T, row []part) {
	t.Helper()
	var b []byte
	var frames []api.Frame
	var events []api.Event
	ahead, missing, many := -1, false, int64(0)
	for _, p := range row {
		b = append(b, p.b...)
		if p.seq < 0 {
			missing = true
			continue
		}
		frames = append(frames, framed(byte(p.seq), p.v...))
		inOrder := ahead < 0 || p.seq == ahead+1 || p.seq == 0 && ahead == 255
		ahead = p.seq
		if !inOrder {
			missing = true
			continue
		}
		if missing {
			events = append(events, gap(many))
			missing = false
		}
		for _, v := range p.v {
			events = append(events, sample(many, v))
			many++
		}
	}
	framesAre(t, b, len(b), frames...)
	eventsAre(t, b, len(b), events...)
}
