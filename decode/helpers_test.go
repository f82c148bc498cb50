package decode_test

import (
	"slices"
	"testing"

	"systole/api"
	"systole/crc"
	"systole/decode"
	"systole/frame"
	"systole/parse"
)

// one is the bytes of a frame with samples of these values.
func one(seq byte, values ...int32) []byte {
	var l []api.Sample
	for _, v := range values {
		l = append(l, api.Sample{V: v})
	}
	return made(seq, l...)
}

// made is the bytes of a frame.
func made(seq byte, l ...api.Sample) []byte {
	b, e := frame.Make(seq, l...)
	if e != api.OK {
		panic("no frame can be made so")
	}
	return b
}

// sealed is the signs, some bytes, and their sum, the lower byte first.
func sealed(l ...byte) []byte {
	return append([]byte{0xA5, 0x5A}, crc.Seal(l)...)
}

// hidden is a frame of one sample that may stand within others' bytes, one byte behind a flag: wherever another one's flag is, it has a 0 or a 1.
func hidden() []byte {
	for i := range 1 << 10 {
		b := one(byte(i&1), int32(i>>2)<<8-1<<15+int32(i>>1&1))
		if b[2] <= 1 && b[5] <= 1 && b[8] <= 1 && !slices.Contains(b[2:], 0xA5) {
			return b
		}
	}
	panic("no frame may stand within others' bytes")
}

// whole is some rows of bytes, one behind the other.
func whole(l ...[]byte) []byte {
	return slices.Concat(l...)
}

// turned is b with these bits of one byte turned.
func turned(b []byte, place int, bits byte) []byte {
	other := slices.Clone(b)
	other[place] ^= bits
	return other
}

// gap is the event of a gap.
func gap(at int64) api.Event {
	return api.Event{Kind: 1, At: at}
}

// sample is the event of a sample with the lead on.
func sample(at int64, v int32) api.Event {
	return api.Event{Kind: 2, At: at, Sample: api.Sample{V: v}}
}

// shown is of a long row its first bytes alone, for a message that can be read.
func shown(b []byte) []byte {
	return b[:min(len(b), 200)]
}

// few is of a long list its first events alone.
func few(l []api.Event) []api.Event {
	return l[:min(len(l), 20)]
}

// told is what a decoder's counts should say.
type told struct {
	waits                int
	bytes, samples, gaps int64
}

// stands looks at a decoder by every call that changes nothing.
func stands(t *testing.T, d *decode.Decoder, want told) {
	t.Helper()
	got := told{d.Waits(), d.Bytes(), d.Samples(), d.Gaps()}
	if got != want {
		t.Fatalf("Waits, Bytes, Samples, Gaps: %v; want %v", got, want)
	}
	if got.waits >= api.MaxFrame {
		t.Fatalf("%d bytes wait", got.waits)
	}
}

// answers feeds some bytes, and looks at what is answered.
func answers(t *testing.T, d *decode.Decoder, b []byte, want ...api.Event) {
	t.Helper()
	if l := d.Feed(b...); !slices.Equal(l, want) {
		t.Fatalf("Feed of % X (%d bytes): %v; want %v", shown(b), len(b), few(l), few(want))
	}
}

// stream is a row of bytes, and what the grammar says of it.
type stream struct {
	b   []byte
	all []api.Event
	// at is, of as many first bytes as were asked for, what is told behind them.
	at map[int]told
}

// streamOf is the stream of these bytes.
func streamOf(b []byte) *stream {
	all, _ := parse.Events(b)
	return &stream{b: b, all: all, at: map[int]told{}}
}

// behind is what is told behind the first n bytes: it's reckoned from what the grammar says of them.
func (s *stream) behind(t *testing.T, n int) told {
	t.Helper()
	if at, ok := s.at[n]; ok {
		return at
	}
	l, end := parse.Events(s.b[:n])
	if len(l) > len(s.all) || !slices.Equal(l, s.all[:len(l)]) {
		t.Fatalf("what the first %d of % X say is not the first of what all say", n, shown(s.b))
	}
	at := told{waits: n - end, bytes: int64(n)}
	for _, e := range l {
		switch e.Kind {
		case 1:
			at.gaps++
		case 2:
			at.samples++
		}
	}
	s.at[n] = at
	return at
}

// goesOn feeds the bytes from one place up to another one, and looks at what is answered, and at all counts. What is answered are the events of the bytes so far that are not those of the bytes ahead.
func (s *stream) goesOn(t *testing.T, d *decode.Decoder, from, to int) {
	t.Helper()
	ahead, behind := s.behind(t, from), s.behind(t, to)
	l := d.Feed(s.b[from:to]...)
	want := s.all[ahead.samples+ahead.gaps : behind.samples+behind.gaps]
	if !slices.Equal(l, want) {
		t.Fatalf("Feed of the bytes %d to %d of % X (%d bytes): %v; want %v", from, to, shown(s.b), len(s.b), few(l), few(want))
	}
	stands(t, d, behind)
}

// isFed feeds the bytes to a new decoder, cut at these places, which stand in order.
func (s *stream) isFed(t *testing.T, cuts ...int) {
	t.Helper()
	d := decode.New()
	at := 0
	for _, to := range append(cuts, len(s.b)) {
		s.goesOn(t, d, at, to)
		at = to
	}
}

// byteByByte feeds the bytes one at a time.
func (s *stream) byteByByte(t *testing.T) {
	t.Helper()
	var cuts []int
	for at := range s.b {
		cuts = append(cuts, at)
	}
	s.isFed(t, cuts...)
}

// noise hands out numbers of all kinds, the same ones each time.
type noise uint64

// upTo is the next number, from 0 up to n - 1.
func (x *noise) upTo(n int) int {
	if *x == 0 {
		*x = 88172645463325252
	}
	*x ^= *x << 13
	*x ^= *x >> 7
	*x ^= *x << 17
	return int(uint64(*x) >> 11 % uint64(n))
}

// frame is the bytes of a frame of samples of all kinds.
func (x *noise) frame(seq byte, many int) []byte {
	var l []api.Sample
	for range many {
		l = append(l, api.Sample{V: int32(x.upTo(65536) + api.Low), Off: x.upTo(2) == 1})
	}
	return made(seq, l...)
}

// garbage is bytes of all kinds, and among them often those of which frames' beginnings are made.
func (x *noise) garbage(many int) []byte {
	often := []byte{0xA5, 0x5A, 0, 1, 2, 32, 33}
	var b []byte
	for range many {
		if x.upTo(3) == 0 {
			b = append(b, byte(x.upTo(256)))
		} else {
			b = append(b, often[x.upTo(len(often))])
		}
	}
	return b
}

// stream is so many parts, as a line that loses brings them: frames, of which some are left out, come twice, are cut off or have a bit turned, and garbage.
func (x *noise) stream(parts int) []byte {
	var b []byte
	seq := byte(x.upTo(256))
	for range parts {
		f := x.frame(seq, x.upTo(4)*x.upTo(8)+1)
		place := x.upTo(len(f))
		switch x.upTo(14) {
		case 0:
			f = turned(f, place, byte(1<<x.upTo(8)))
		case 1:
			f = f[:place]
		case 2:
			f = f[place:]
		case 3:
			f = slices.Insert(f, place, 0xA5)
		case 4:
			f = x.garbage(x.upTo(40))
		case 5:
			f = append(f, x.garbage(1)...)
		}
		b = append(b, f...)
		if x.upTo(8) > 0 {
			seq++
		}
		seq += byte(x.upTo(8) / 7)
	}
	return b
}

// cuts are places in a row of so many bytes, in order, from each one on to the next at most far; some of them are the same, so that pieces have no byte.
func (x *noise) cuts(size, far int) []int {
	var l []int
	for at := 0; at <= size; at += x.upTo(far + 1) {
		l = append(l, at)
	}
	return l
}

// garbage are rows of bytes of which no byte begins a frame, whatever stands behind.
func garbage() [][]byte {
	b := one(7, 5, -6)
	return [][]byte{
		{0x00},
		{0x5A},
		{0xFF, 1, 2},
		{0xA5, 0x00},
		{0xA5, 0xA5, 0x00},
		{0xA5, 0x5A, 0x07, 0x00},
		{0xA5, 0x5A, 0x07, 0x21},
		{0xA5, 0x5A, 0x07, 0x01, 0x02},
		{0xA5, 0x5A, 0x07, 0x02, 0x01, 0x09, 0x09, 0x80},
		turned(b, 0, 1),
		turned(b, len(b)-1, 0x80),
		sealed(7, 0),
		sealed(7, 1, 2, 0, 0),
	}
}

// rows are short rows of bytes of all kinds that the chapter and the grammar tell apart.
func rows() [][]byte {
	l := [][]byte{
		nil,
		one(1, 10),
		whole(one(1, 10, 11), one(2, 12), one(3, 13)),
		whole(one(1, 10), one(3, 30), one(4, 40)),             // a number left out
		whole(one(1, 10), one(1, 11), one(2, 20)),             // one that comes twice
		whole(one(5, 1), one(3, 2), one(4, 3), one(9, 4)),     // one that steps back
		whole(one(254, 1), one(255, 2), one(0, 3), one(1, 4)), // round
		whole(one(255, 1), one(1, 2), one(2, 3)),
		whole(one(255, 1), one(255, 2), one(0, 3)),
		whole(one(1, 1), one(9, 2), one(2, 3), one(3, 4)), // each against the one ahead
		whole([]byte{0xA5, 0x5A, 3, 2, 0, 0}, one(3, 10), make([]byte, 8)),
		whole(one(1, 1), []byte{0xA5}, one(2, 2), []byte{0xA5, 0x5A}, one(3, 3)),
		whole([]byte{0xA5, 0xA5, 0x5A}, one(8, 1), []byte{0xA5}),
		whole(one(8, 1), one(9, 2)[:8], one(9, 2), one(10, 3)[3:], one(10, 3)),
	}
	for _, g := range garbage() {
		l = append(l,
			g,
			whole(g, one(1, 10), one(2, 11)),
			whole(one(1, 10), g, one(2, 11)),
			whole(one(1, 10), g, one(3, 11), g, one(4, 12)),
			whole(one(255, 10), g, one(0, 11), g),
		)
	}
	return l
}
