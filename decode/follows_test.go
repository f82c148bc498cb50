package decode_test

import (
	"slices"
	"testing"

	"systole/api"
	"systole/decode"
	"systole/parse"
)

// P8.1, P8.2, P8.3: each row, in one piece, byte by byte, and cut at each place and at each two places, the same one twice among them: each Feed answers what is new of the events of the bytes so far, and the counts are those of the bytes so far.
func TestEachCut(t *testing.T) {
	for _, b := range rows() {
		s := streamOf(b)
		s.isFed(t)
		s.byteByByte(t)
		for first := range len(b) + 1 {
			s.isFed(t, first)
			for second := first; second <= len(b); second++ {
				s.isFed(t, first, second)
			}
		}
	}
}

// P8.3: the answers, one behind the other, are the events of all bytes, with nothing between that a cut had made.
func TestAnswersAreAll(t *testing.T) {
	var x noise
	for range 300 {
		b := x.stream(12)
		want, _ := parse.Events(b)
		for _, far := range []int{1, 2, 7, 40, 300} {
			var got []api.Event
			d := decode.New()
			at := 0
			for _, to := range append(x.cuts(len(b), far), len(b)) {
				got = append(got, d.Feed(b[at:to]...)...)
				at = to
			}
			if !slices.Equal(got, want) {
				t.Fatalf("% X in pieces of up to %d: %v; want %v", shown(b), far, few(got), few(want))
			}
		}
	}
}

// P8.1, P8.2: long streams of frames and garbage, in pieces of all lengths, none among them.
func TestLongStream(t *testing.T) {
	var x noise
	for _, far := range []int{30, 200, 1000} {
		s := streamOf(x.stream(500))
		s.isFed(t, x.cuts(len(s.b), far)...)
	}
}

// P8.1, P8.2: a stream byte by byte.
func TestStreamByteByByte(t *testing.T) {
	var x noise
	for range 6 {
		streamOf(x.stream(60)).byteByByte(t)
	}
}

// P8.1, P8.2: bytes of all kinds, and often those with which frames begin; there is hardly a frame among them.
func TestRandomBytes(t *testing.T) {
	var x noise
	for range 20 {
		s := streamOf(x.garbage(700))
		s.byteByByte(t)
		s.isFed(t, x.cuts(len(s.b), 20)...)
	}
}

// P8.1: a piece of more bytes than wait, and than go into any ring, is taken whole.
func TestGreatPieces(t *testing.T) {
	var x noise
	b := x.stream(20000)
	if len(b) < 1<<18 {
		t.Fatalf("%d bytes alone", len(b))
	}
	streamOf(b).isFed(t, 5, 100000)
	streamOf(slices.Repeat([]byte{0xA5}, 1<<18)).isFed(t, 1<<17, 1<<17+1)
	streamOf(slices.Repeat([]byte{0xA5, 0x5A}, 1<<17)).isFed(t, 1<<17+1)
	streamOf(slices.Repeat([]byte{0xA5, 0x5A, 0x01, 0x20, 0x00}, 1<<16)).isFed(t, 1<<17+2)
}

// P8.4: a frame of the greatest size that is cut ahead of its last byte: one byte less than it waits, and then none.
func TestLittleWaits(t *testing.T) {
	var x noise
	b := x.frame(7, api.MaxSamples)
	ahead := api.MaxFrame - 1
	for _, cut := range []int{1, 50, 100} {
		d := decode.New()
		answers(t, d, b[:cut])
		answers(t, d, b[cut:ahead])
		stands(t, d, told{waits: 101, bytes: 101})
		l := d.Feed(b[ahead])
		if len(l) != api.MaxSamples {
			t.Fatalf("%d events; want %d", len(l), api.MaxSamples)
		}
		stands(t, d, told{bytes: 102, samples: 32})
	}
}

// P8.4: likewise with its sum wrong: whatever it has within waits no more, or less than it did.
func TestLittleWaitsWithoutFrame(t *testing.T) {
	b := made(0, make([]api.Sample, api.MaxSamples)...)
	for _, place := range []int{5, 99, 100, 101} {
		wrong := turned(b, place, 0x10)
		d := decode.New()
		answers(t, d, wrong[:101])
		stands(t, d, told{waits: 101, bytes: 101})
		answers(t, d, wrong[101:])
		stands(t, d, told{bytes: 102})
		answers(t, d, one(1, 10), gap(0), sample(0, 10))
	}
	// The signs of another one stand in its first sample, and it tells as many samples.
	l := make([]api.Sample, api.MaxSamples)
	l[0].V, l[1] = 0x5AA5, api.Sample{V: 32, Off: true}
	b = made(0, l...)
	d := decode.New()
	answers(t, d, b[:101])
	answers(t, d, []byte{b[101] ^ 1})
	stands(t, d, told{waits: 97, bytes: 102})
	answers(t, d, make([]byte, 4))
	stands(t, d, told{waits: 101, bytes: 106})
	answers(t, d, []byte{9})
	stands(t, d, told{bytes: 107})
	answers(t, d, one(1, 10), gap(0), sample(0, 10))
}

// P8.4: never do so many bytes wait, whatever comes, byte by byte: here frames of the greatest size with right sums and wrong ones, and signs in their samples.
func TestNeverManyWait(t *testing.T) {
	var x noise
	d := decode.New()
	greatest := 0
	for i := range 2000 {
		l := make([]api.Sample, api.MaxSamples)
		for range x.upTo(6) {
			at := x.upTo(31)
			l[at].V, l[at+1] = 0x5AA5, api.Sample{V: 32, Off: x.upTo(2) == 1}
		}
		b := made(byte(i), l...)
		if x.upTo(2) == 0 {
			b[x.upTo(len(b))] ^= 1
		}
		for _, c := range b {
			d.Feed(c)
			greatest = max(greatest, d.Waits())
		}
	}
	if greatest != api.MaxFrame-1 {
		t.Errorf("%d bytes waited; want %d at most, and at times", greatest, api.MaxFrame-1)
	}
}

// The way in which it is built: a decoder embeds a ring of just the bytes that wait.
func TestRingOfWhatWaits(t *testing.T) {
	var x noise
	s := streamOf(x.stream(100))
	d := decode.New()
	at := 0
	for _, to := range x.cuts(len(s.b), 30) {
		s.goesOn(t, d, at, to)
		at = to
		first := to - s.behind(t, to).waits
		if d.Len() != to-first {
			t.Fatalf("%d bytes in the ring, where %d wait", d.Len(), to-first)
		}
		for i := range d.Len() {
			if c, ok := d.At(i); !ok || c != s.b[first+i] {
				t.Fatalf("byte %d in the ring: %X, %t; want %X", i, c, ok, s.b[first+i])
			}
		}
	}
}
