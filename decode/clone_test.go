package decode_test

import (
	"bytes"
	"slices"
	"testing"

	"systole/api"
	"systole/decode"
)

// P8.2: behind Clone both stand alike, wherever it was made, and each goes its own way; whatever the one is fed, the other one goes on as if there were none.
func TestClone(t *testing.T) {
	other := streamOf(whole(one(1, 1), one(2, 2), []byte{9}, one(4, 4), one(5, 5)[:8]))
	for _, b := range rows() {
		s := streamOf(b)
		for n := range len(b) + 1 {
			d := decode.New()
			s.goesOn(t, d, 0, n)
			c := d.Clone()
			stands(t, c, s.behind(t, n))
			d.Feed(other.b...)
			d.Feed(7, 7)
			stands(t, c, s.behind(t, n))
			s.goesOn(t, c, n, len(b))
			// The other way round.
			d = decode.New()
			s.goesOn(t, d, 0, n)
			c = d.Clone()
			c.Feed(other.b...)
			stands(t, d, s.behind(t, n))
			s.goesOn(t, d, n, len(b))
		}
	}
}

// P8.2: with bytes waiting, each of the two goes on with its own.
func TestCloneWithBytesWaiting(t *testing.T) {
	d := decode.New()
	answers(t, d, one(1, 10), sample(0, 10))
	answers(t, d, one(2, 20)[:7])
	c := d.Clone()
	stands(t, d, told{waits: 7, bytes: 16, samples: 1})
	stands(t, c, told{waits: 7, bytes: 16, samples: 1})
	answers(t, d, []byte{0, 0, 0xA5})
	stands(t, d, told{waits: 1, bytes: 19, samples: 1})
	stands(t, c, told{waits: 7, bytes: 16, samples: 1})
	answers(t, c, one(2, 20)[7:], sample(1, 20))
	stands(t, d, told{waits: 1, bytes: 19, samples: 1})
	stands(t, c, told{bytes: 18, samples: 2})
	answers(t, d, one(2, 21)[1:], gap(1), sample(1, 21))
	answers(t, c, one(3, 30), sample(2, 30))
	answers(t, d, one(3, 31), sample(2, 31))
	stands(t, d, told{bytes: 36, samples: 3, gaps: 1})
	stands(t, c, told{bytes: 27, samples: 3})
}

// P8.2: with nothing waiting: the clone knows of the last frame's number, and of a gap that is not told yet, or that there was none.
func TestCloneWithNothingWaiting(t *testing.T) {
	d := decode.New()
	answers(t, d.Clone(), one(9, 90), sample(0, 90))
	answers(t, d, []byte{7})
	answers(t, d.Clone(), one(9, 90), gap(0), sample(0, 90))
	answers(t, d, one(1, 10), gap(0), sample(0, 10))
	answers(t, d.Clone(), one(3, 30))
	answers(t, d.Clone(), one(2, 20), sample(1, 20))
	c := d.Clone()
	answers(t, c, one(5, 50))
	e := c.Clone()
	answers(t, e, one(6, 60), gap(1), sample(1, 60))
	answers(t, c, one(6, 61), gap(1), sample(1, 61))
	answers(t, d, one(2, 20), sample(1, 20))
	stands(t, c, told{bytes: 28, samples: 2, gaps: 2})
	stands(t, d, told{bytes: 19, samples: 2, gaps: 1})
	stands(t, e, told{bytes: 28, samples: 2, gaps: 2})
}

// P8.2: a clone, and a clone of that, in the midst of a long stream.
func TestCloneInStream(t *testing.T) {
	var x noise
	s := streamOf(x.stream(80))
	d := decode.New()
	at := 0
	for _, to := range x.cuts(len(s.b), 25) {
		c := d.Clone()
		c.Clone().Feed(x.garbage(30)...)
		s.goesOn(t, c, at, to)
		s.goesOn(t, d, at, to)
		at = to
	}
}

// The rule R5: the same calls in the same order answer the same, whichever other decoders there are.
func TestNothingIsShared(t *testing.T) {
	var x noise
	var l []*decode.Decoder
	s, other := streamOf(x.stream(40)), streamOf(x.stream(40))
	for range 3 {
		l = append(l, decode.New(), decode.New())
	}
	for at := 0; at+10 <= min(len(s.b), len(other.b)); at += 10 {
		for i, d := range l {
			if i%2 == 0 {
				s.goesOn(t, d, at, at+10)
			} else {
				other.goesOn(t, d, at, at+10)
			}
		}
	}
}

// The rule R4: what is answered is new memory: whoever gets it may change it, and no other answer, ahead or behind, is another one by it.
func TestAnswersAreNewMemory(t *testing.T) {
	b := whole(one(1, 10, 11), []byte{9}, one(2, 20), one(3, 30))
	all := streamOf(b).all
	d := decode.New()
	first := d.Feed(b[:13]...)
	c := d.Clone()
	second := d.Feed(b[13:]...)
	third := c.Feed(b[13:]...)
	if !slices.Equal(first, all[:2]) || !slices.Equal(second, all[2:]) || !slices.Equal(third, all[2:]) {
		t.Fatalf("%v, %v, %v; want %v", first, second, third, all)
	}
	spoil(first)
	if !slices.Equal(second, all[2:]) || !slices.Equal(third, all[2:]) {
		t.Fatalf("behind a change of the first: %v, %v; want %v", second, third, all[2:])
	}
	spoil(second)
	if !slices.Equal(third, all[2:]) {
		t.Fatalf("behind a change of the second: %v; want %v", third, all[2:])
	}
	answers(t, d, one(4, 40), sample(4, 40))
	answers(t, c, one(4, 41), sample(4, 41))
}

// spoil changes all of a list, and what lies behind it.
func spoil(l []api.Event) {
	l = l[:cap(l)]
	for i := range l {
		l[i] = api.Event{Kind: 9, At: 99, Sample: api.Sample{V: 999, Off: true}}
	}
}

// The rule R4: the bytes are as they were, and what lies behind them, which is not read either; none of them is kept.
func TestArgumentsStay(t *testing.T) {
	b := whole([]byte{9}, one(1, 10), one(2, 20))
	for n := range len(b) + 1 {
		for m := n; m <= len(b); m++ {
			room := slices.Clone(b)
			d := decode.New()
			d.Feed(room[:n]...)
			d.Feed(room[n:m]...)
			if !bytes.Equal(room, b) {
				t.Fatalf("cut at %d and %d: % X; want % X", n, m, room, b)
			}
			got := told{d.Waits(), d.Bytes(), d.Samples(), d.Gaps()}
			// What waits is the decoder's own, whatever becomes of the bytes.
			clear(room)
			stands(t, d, got)
			streamOf(b).goesOn(t, d, m, len(b))
		}
	}
}
