package model_test

import (
	"testing"

	"systole/api"
	"systole/chain"
	"systole/qrs"
)

// P26.1: each kind of item as the first one, at any sample: its mark, at its At, and all else of it zero.
func TestEachItem(t *testing.T) {
	for _, mains := range []int{0, 50, 60} {
		for _, at := range edges() {
			for kind := 1; kind <= 5; kind++ {
				for _, v := range []int32{0, 1, -9, 32767, 1 << 30, -1 << 31} {
					tells(t, detector(t, mains), marks{{Kind: kind, At: at}}, api.Item{Kind: kind, At: at, V: v})
				}
			}
		}
	}
	d := detector(t, 50)
	tells(t, d, marks{off(3), dark(3), gap(4), on(9), sample(9, 0), gap(10)}, item(2, 3), item(5, 3), item(1, 4), item(3, 9), value(9, 50), item(1, 10))
	tells(t, d, marks{on(9), on(9), off(8), off(8), dark(-1), gap(0), gap(0)}, item(3, 9), item(3, 9), item(2, 8), item(2, 8), item(5, -1), item(1, 0), item(1, 0))
}

// P26.1: kinds that are none say nothing, and do nothing: what comes behind them is as if they had not come.
func TestOtherItems(t *testing.T) {
	for _, kind := range otherKinds() {
		d := detector(t, 50)
		for _, at := range edges() {
			tells(t, d, nil, api.Item{Kind: kind, At: at, V: int32(at)})
		}
		tells(t, d, marks{sample(0, 0), dark(1)}, value(0, 7), api.Item{Kind: kind, V: 9}, item(5, 1), item(kind, 4))
	}
	row := numbered(0, pulses(900, 3000, 3, 100)...)
	want := detector(t, 50).Push(row...)
	if len(of(want, 6)) == 0 {
		t.Fatal("no beat")
	}
	for _, kind := range otherKinds() {
		var mixed items
		for _, it := range row {
			mixed = append(mixed, item(kind, it.At), it, api.Item{Kind: kind, At: it.At, V: -9000})
		}
		tells(t, detector(t, 50), want, mixed...)
	}
}

// P26.1: to push nothing tells nothing, and changes nothing.
func TestNoItem(t *testing.T) {
	row := numbered(0, pulses(900, 3000, 3, 100)...)
	want := detector(t, 50).Push(row...)
	d := detector(t, 50)
	var got marks
	for _, it := range row {
		tells(t, d, nil)
		tells(t, d, nil, nil...)
		tells(t, d, nil, items{}...)
		got = append(got, d.Push(it)...)
	}
	alike(t, got, want)
}

// P26.1: a sample's mark has the H of the wave that a chain makes of all samples, and a beat's mark the beat that a detector of their own tells of it, ahead of the sample's.
func TestParts(t *testing.T) {
	for _, mains := range []int{0, 50, 60} {
		c, _ := chain.New(mains)
		heart := qrs.New()
		d := detector(t, mains)
		x := noise(7)
		many := 0
		row := append(pulses(1500, 20000, 4, 130), swings(700, 5000, 40)...)
		for range 700 {
			row = append(row, int32(x.whole()))
		}
		for i, v := range append(row, pulses(3000, 3000, 3, 150)...) {
			// The numbers may be any: a detector goes by the first one alone.
			at := int64(2000 + i)
			if i > 0 && x.upTo(9) == 0 {
				at = x.whole()
			}
			w := c.Push(v)
			var want marks
			for _, b := range heart.Push(at, w) {
				want = append(want, api.Mark{Kind: api.MkBeat, At: at, Beat: b})
				many++
			}
			tells(t, d, append(want, api.Mark{Kind: api.MkSample, At: at, H: w.H}), api.Item{Kind: api.ItSample, At: at, V: v})
		}
		if many < 15 {
			t.Errorf("mains %d: %d beats", mains, many)
		}
	}
}

// P26.1: the waves of a single step, and of values beyond Low and High, written out: the base is the first sample.
func TestWaves(t *testing.T) {
	d := detector(t, 0)
	tells(t, d, marks{sample(0, 0), sample(1, -2), sample(2, -8)}, value(0, 500), value(1, 500+2048), value(2, 500+2048))
	d = detector(t, 0)
	tells(t, d, marks{sample(0, 0), sample(1, 0), sample(2, 0)}, value(0, 40000), value(1, 32767), value(2, 1<<31-1))
	tells(t, d, marks{sample(3, 64)}, value(3, -1<<31))
	for _, mains := range []int{0, 50, 60} {
		h := holdDetect(t, mains)
		for _, v := range []int32{0, 1, -1, 32767, 32768, -32768, -32769, 1 << 30, -1 << 31, 1<<31 - 1} {
			for i := range int64(90) {
				h.push(t, value(i, v))
			}
		}
	}
}

// P26.1: a dark sample is no sample: what comes behind it goes on as if it had not come.
func TestDark(t *testing.T) {
	row := numbered(0, pulses(1200, 3000, 3, 100)...)
	want := detector(t, 50).Push(row...)
	d := detector(t, 50)
	var got marks
	for i, it := range row {
		tells(t, d, marks{dark(int64(-i)), dark(most)}, api.Item{Kind: 5, At: int64(-i), V: 9}, api.Item{Kind: 5, At: most, V: -30000})
		got = append(got, d.Push(it)...)
	}
	alike(t, got, want)
}

// P26.1: the same items come to the same marks, however they are cut into calls.
func TestItemsCut(t *testing.T) {
	row := append(numbered(0, pulses(900, 3000, 3, 100)...), item(2, 900), item(5, 900), item(5, 901), item(3, 902))
	row = append(row, numbered(902, pulses(500, 3000, 3, 100)...)...)
	row = append(row, item(1, 1402), item(77, 0))
	row = append(row, numbered(1402, pulses(600, 3000, 3, 100)...)...)
	want := detector(t, 50).Push(row...)
	if n := len(of(want, 6)); n < 6 {
		t.Fatalf("%d beats", n)
	}
	for cut := range len(row) + 1 {
		d := detector(t, 50)
		got := append(d.Push(row[:cut]...), d.Push(row[cut:]...)...)
		alike(t, got, want)
	}
	for _, size := range []int{1, 2, 3, 16, 63, 64, 65, 400, 1000} {
		d := detector(t, 50)
		var got marks
		for at := 0; at < len(row); at += size {
			got = append(got, d.Push(row[at:min(at+size, len(row))]...)...)
		}
		alike(t, got, want)
	}
}
