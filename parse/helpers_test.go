package parse_test

import (
	"reflect"
	"slices"
	"testing"

	"systole/api"
	"systole/crc"
	"systole/frame"
	"systole/parse"
)

// one is the bytes of a frame with samples of these values.
func one(seq byte, values ...int32) []byte {
	return made(framed(seq, values...))
}

// framed is a frame with samples of these values.
func framed(seq byte, values ...int32) api.Frame {
	f := api.Frame{Seq: seq}
	for _, v := range values {
		f.L = append(f.L, api.Sample{V: v})
	}
	return f
}

// made is a frame's bytes.
func made(f api.Frame) []byte {
	b, e := frame.Make(f.Seq, f.L...)
	if e != api.OK {
		panic("no frame can be made so")
	}
	return b
}

// whole is some rows of bytes, one behind the other.
func whole(l ...[]byte) []byte {
	return slices.Concat(l...)
}

// turned is b with these bits of one byte turned.
func turned(b []byte, place int, bits byte) []byte {
	other := slices.Clone(b)
	other[place] ^= bits
	return other
}

// gap is the event of a gap.
func gap(at int64) api.Event {
	return api.Event{Kind: 1, At: at}
}

// sample is the event of a sample with the lead on.
func sample(at int64, v int32) api.Event {
	return api.Event{Kind: 2, At: at, Sample: api.Sample{V: v}}
}

// framesAre looks at Frames.
func framesAre(t *testing.T, b []byte, end int, want ...api.Frame) {
	t.Helper()
	l, got := parse.Frames(b)
	if !sameFrames(l, want) || got != end {
		t.Fatalf("Frames of % X (%d bytes): %v, %d; want %v, %d", shown(b), len(b), few(l), got, few(want), end)
	}
}

// shown is of a long row its first bytes alone, for a message that can be read.
func shown(b []byte) []byte {
	return b[:min(len(b), 200)]
}

// few is of a long list its first things alone.
func few[T any](l []T) []T {
	return l[:min(len(l), 20)]
}

// sameFrames tells whether two lists of frames are alike.
func sameFrames(l, other []api.Frame) bool {
	return slices.EqualFunc(l, other, func(f, g api.Frame) bool { return reflect.DeepEqual(f, g) })
}

// eventsAre looks at Events.
func eventsAre(t *testing.T, b []byte, end int, want ...api.Event) {
	t.Helper()
	l, got := parse.Events(b)
	if !slices.Equal(l, want) || got != end {
		t.Fatalf("Events of % X (%d bytes): %v, %d; want %v, %d", shown(b), len(b), few(l), got, few(want), end)
	}
}

// firstIs looks at a First that finds a frame.
func firstIs(t *testing.T, b []byte, want int) {
	t.Helper()
	if at, ok := parse.First(b); at != want || !ok {
		t.Fatalf("First of % X (%d bytes): %d, %t; want %d", shown(b), len(b), at, ok, want)
	}
}

// nothingIn looks at bytes whose walk finds no frame.
func nothingIn(t *testing.T, b []byte, end int) {
	t.Helper()
	if at, ok := parse.First(b); at != 0 || ok {
		t.Fatalf("First of % X (%d bytes): %d, %t; want none", shown(b), len(b), at, ok)
	}
	framesAre(t, b, end)
	eventsAre(t, b, end)
}

// stand is a frame of a walk, and where it begins.
type stand struct {
	at int
	f  api.Frame
}

// walked is the walk as the chapter words it.
func walked(b []byte) ([]stand, int) {
	var l []stand
	at := 0
	for at < len(b) {
		f, n, e := frame.Look(b[at:])
		if e == api.ErrShort {
			return l, at
		}
		if e == api.OK {
			l = append(l, stand{at, f})
			at += n
		} else {
			at++
		}
	}
	return l, len(b)
}

// saidBy is the events of a walk as the chapter words them.
func saidBy(l []stand) []api.Event {
	var events []api.Event
	missing, behind, many := false, 0, int64(0)
	for i, s := range l {
		if s.at > behind {
			missing = true
		}
		behind = s.at + 6 + 3*len(s.f.L)
		if i > 0 && int(s.f.Seq) != (int(l[i-1].f.Seq)+1)%256 {
			missing = true
			continue
		}
		if missing {
			events = append(events, gap(many))
			missing = false
		}
		for _, x := range s.f.L {
			events = append(events, api.Event{Kind: 2, At: many, Sample: x})
			many++
		}
	}
	return events
}

// isWalked holds all calls against the chapter's words.
func isWalked(t *testing.T, b []byte) {
	t.Helper()
	l, end := walked(b)
	if len(l) == 0 {
		nothingIn(t, b, end)
		return
	}
	var frames []api.Frame
	for _, s := range l {
		frames = append(frames, s.f)
	}
	firstIs(t, b, l[0].at)
	framesAre(t, b, end, frames...)
	eventsAre(t, b, end, saidBy(l)...)
}

// noise hands out numbers of all kinds, the same ones each time.
type noise uint64

// upTo is the next number, from 0 up to n - 1.
func (x *noise) upTo(n int) int {
	if *x == 0 {
		*x = 88172645463325252
	}
	*x ^= *x << 13
	*x ^= *x >> 7
	*x ^= *x << 17
	return int(uint64(*x) >> 11 % uint64(n))
}

// frame is a frame of samples of all kinds.
func (x *noise) frame(seq byte, many int) api.Frame {
	f := api.Frame{Seq: seq}
	for range many {
		f.L = append(f.L, api.Sample{V: int32(x.upTo(65536) + api.Low), Off: x.upTo(2) == 1})
	}
	return f
}

// garbage are rows of bytes of which no byte begins a frame, whatever stands behind.
func garbage() [][]byte {
	l := [][]byte{
		{0x00},
		{0xFF},
		{0x5A},
		{0x5A, 0xA4},
		{1, 2, 3},
		{0xA5, 0x00},
		{0xA5, 0xA5, 0x00},
		{0x5A, 0xA5, 0x01},
		{0xA5, 0x5A, 0x07, 0x00},
		{0xA5, 0x5A, 0x07, 0x21},
		{0xA5, 0x5A, 0xA5, 0xFF},
		{0xA5, 0x5A, 0x07, 0x01, 0x02},
		{0xA5, 0x5A, 0x07, 0x02, 0x01, 0x09, 0x09, 0x80},
		make([]byte, 300),
		slices.Repeat([]byte{0x5A}, 300),
	}
	return append(l, wrongs(7)...)
}

// wrongs are rows of bytes that are a frame with this number but for one thing, and of which no byte begins another one.
func wrongs(seq byte) [][]byte {
	b := one(seq, 5, -6)
	n := len(b)
	l := [][]byte{
		turned(b, n-2, 0x01), // its sum, with either byte wrong
		turned(b, n-1, 0x80),
		turned(b, 2, 0x10), // what the sum is of
		turned(b, 5, 0x01),
		turned(b, 9, 0x40),
		turned(b, 4, 0x01),
		turned(b, 0, 0x01), // its signs
		turned(b, 1, 0x01),
	}
	// Its flag or its size, of which the sum is right.
	for _, flag := range []byte{2, 3, 0x80, 0xFF} {
		l = append(l, sealed(seq, 1, flag, 0, 0), sealed(seq, 2, 0, 0, 0, flag, 0, 0))
	}
	l = append(l, sealed(seq, 0))
	for _, size := range []byte{33, 34, 64, 128, 255} {
		l = append(l, sealed(append([]byte{seq, size}, make([]byte, 3*int(size))...)...))
	}
	return l
}

// sealed is the signs, some bytes, and their sum, the lower byte first.
func sealed(l ...byte) []byte {
	return append([]byte{0xA5, 0x5A}, crc.Seal(l)...)
}
