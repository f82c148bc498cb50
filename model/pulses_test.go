package model_test

import (
	"testing"

	"systole/api"
	"systole/model"
)

// P26.1: of pulses of several heights, widths and distances each one behind the learning is told as a beat, at most 20 from its apex: first the beat, then the sample at which it is told; RR is the distance, and 0 of the first one. Nothing else is told but each sample.
func TestPulses(t *testing.T) {
	for _, mains := range []int{0, 50, 60} {
		for _, height := range []int32{1000, 3000, 9999, 30000} {
			for half := 3; half <= 6; half++ {
				for _, each := range []int{100, 120, 200, 300} {
					eachBeats(t, mains, height, half, each)
				}
			}
		}
	}
}

// eachBeats looks at the beats of one such row, that begins at sample 5000.
func eachBeats(t *testing.T, mains int, height int32, half, each int) {
	t.Helper()
	many := 3000
	l := detector(t, mains).Push(numbered(5000, pulses(many, height, half, each)...)...)
	if n := len(of(l, 4)); n != many || len(of(l, 4, 6)) != len(l) {
		t.Fatalf("mains %d, height %d, half %d, each %d: %d samples of %d marks", mains, height, half, each, n, len(l))
	}
	var told, last int64
	for i, m := range l {
		if m.Kind != api.MkBeat {
			continue
		}
		b := m.Beat
		far := (b.At-5000)%int64(each) - int64(each/2)
		want := api.Beat{At: b.At, Seen: m.At}
		if told > 0 {
			want.RR = int64(each)
		}
		if max(far, -far) > 20 || b != want || told > 0 && b.At != last+int64(each) || m.H != 0 || i+1 == len(l) || l[i+1].Kind != 4 || l[i+1].At != m.At || m.At < 5000+learn {
			t.Fatalf("mains %d, height %d, half %d, each %d: %+v, then %+v", mains, height, half, each, m, l[i+1])
		}
		last = b.At
		told++
	}
	// An apex may be just around the end of the learning, or of the row.
	if apexes := int64((many - learn) / each); told < apexes-1 || told > apexes+1 {
		t.Fatalf("mains %d, height %d, half %d, each %d: %d beats", mains, height, half, each, told)
	}
}

// P26.1: a train written out: the beats of pulses in each 100 samples, with their places, distances, and where they are told.
func TestTrain(t *testing.T) {
	var want marks
	for _, m := range model.Marks(50, shown(0, pulses(1200, 3000, 3, 100)...)...) {
		if m.Kind == api.MkBeat {
			want = append(want, m)
		}
	}
	if len(want) != 8 {
		t.Fatalf("%d beats", len(want))
	}
	first := want[0].Beat
	for i, m := range want {
		behind := 100 * int64(i)
		b := api.Beat{At: first.At + behind, Seen: first.Seen + behind}
		if i > 0 {
			b.RR = 100
		}
		if m != (api.Mark{Kind: 6, At: first.Seen + behind, Beat: b}) {
			t.Errorf("beat %d: %+v", i, m)
		}
	}
	// Its apex is at 350: it is seen, and so told, behind the learning.
	if first.At < 330 || first.At > 370 || first.Seen <= learn || first.Seen > 430 {
		t.Errorf("the first one: %+v", first)
	}
}

// P26.1: of a line that is even no beat is told, however high it lies, and all waves are 0.
func TestEven(t *testing.T) {
	for _, mains := range []int{0, 50, 60} {
		for _, v := range []int32{0, 1, -1, 5, 32767, -32768, 1 << 30, -1 << 31} {
			var want marks
			for at := range int64(2500) {
				want = append(want, sample(at, 0))
			}
			tells(t, detector(t, mains), want, numbered(0, even(v, 2500)...)...)
		}
	}
}

// P26.1: while it learns no beat is told; of a train that is no longer than that none is.
func TestLearning(t *testing.T) {
	for _, each := range []int{60, 100, 130} {
		l := detector(t, 50).Push(numbered(0, pulses(learn, 3000, 3, each)...)...)
		if len(l) != learn || len(of(l, 4)) != learn {
			t.Fatalf("each %d: %d marks", each, len(l))
		}
	}
}

// P26.1: a beat that is found by looking back is told as such, ahead of the sample at which it comes to be so.
func TestBack(t *testing.T) {
	v := pulses(3000, 9000, 4, 200)
	// One pulse that is low: too low for the upper threshold.
	for i := 1800; i < 2000; i++ {
		v[i] = pulse(3500, 4, i-1900)
	}
	h := holdDetect(t, 0)
	back := 0
	for _, m := range h.push(t, numbered(0, v...)...) {
		if m.Kind == 6 && m.Beat.Back {
			back++
			if far := m.Beat.At - 1900; far < -20 || far > 20 || m.Beat.Seen != m.At || m.At < 2000 {
				t.Errorf("%+v", m)
			}
		}
	}
	if back != 1 {
		t.Errorf("%d were found by looking back", back)
	}
}
