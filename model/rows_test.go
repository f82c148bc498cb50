package model_test

import (
	"testing"

	"systole/api"
	"systole/lead"
	"systole/model"
)

// P26.1: long rows of random pieces (pulses, swings, even and noisy stretches, leads off, gaps), as items, in calls of any number, held against the chapters' words; and that there were enough marks of each kind to say something.
func TestItemRows(t *testing.T) {
	x := noise(83)
	var many [7]int
	for i := range 90 {
		e := x.rowOf(5000)
		said := itemsOf(e)
		alike(t, lead.Items(e...), said)
		h := holdDetect(t, []int{0, 50, 60}[i%3])
		for len(said) > 0 {
			n := min(x.one(0, 1, 1, 2, 5, x.from(1, 40), x.from(1, 900)), int64(len(said)))
			for _, m := range h.push(t, said[:n]...) {
				many[m.Kind]++
			}
			said = said[n:]
		}
	}
	for kind, fewest := range []int{0, 100, 50, 50, 50000, 3000, 300} {
		if many[kind] < fewest {
			t.Errorf("of kind %d there were %d marks", kind, many[kind])
		}
	}
}

// P26.2: long rows of random marks, with random limits and orders, in calls of any number, held against the chapters' words; and that each out was said often enough to say something.
func TestMarkRows(t *testing.T) {
	x := noise(89)
	var many [9][6]int
	for range 100 {
		l := x.limits()
		h := holdJudge(t, l)
		row := x.marks(l, 700)
		o := x.orders(x.one(0, 10, 100), 0, max(0, row[len(row)-1].At))
		due, same := dueOf(o), dueOf(o)
		for len(row) > 0 {
			n := min(x.one(0, 1, 1, 1, 2, 3, x.from(1, 40)), int64(len(row)))
			for _, one := range h.push(t, due, same, row[:n]...) {
				many[one.Kind][one.Alarm]++
			}
			row = row[n:]
		}
	}
	enough(t, many, 40)
}

// enough looks that each kind of out was said at least so often, of each alarm of which it may be.
func enough(t *testing.T, many [9][6]int, fewest int) {
	t.Helper()
	for kind := 1; kind <= 8; kind++ {
		for alarm := range 6 {
			alone := kind == api.OutBeat || kind == api.OutSound || kind == api.OutSilence
			never := alone != (alarm == 0) || kind == api.OutEscape && (alarm == 2 || alarm == 3)
			if n := many[kind][alarm]; never != (n == 0) || !never && n < fewest {
				t.Errorf("outs of kind %d, of alarm %d: %d", kind, alarm, n)
			}
		}
	}
}

// P26.3: long rows of random pieces, with random limits and orders, all at once, held against the chapters' words from events to what is said.
func TestEventRows(t *testing.T) {
	x := noise(97)
	var many [9][6]int
	for range 60 {
		l := x.limits()
		e := x.rowOf(6000)
		o := x.orders(x.one(0, 1, 8, 40, 200), 0, max(6000, min(maxAt, e[len(e)-1].At)))
		alike(t, model.Marks(l.Mains, e...), marksOf(l.Mains, e))
		said := saidOf(l, o, e)
		alike(t, model.Run(l, o, e...), said)
		for _, one := range said {
			many[one.Kind][one.Alarm]++
		}
	}
	enough(t, many, 5)
}

// P26.1 to P26.3: a row of hundreds of thousands of samples, written out: a train whose beats come all along, and an asystole behind it.
func TestVeryLong(t *testing.T) {
	const size = 300000
	e := append(shown(0, pulses(size, 3000, 3, 150)...), shown(size, even(0, 900)...)...)
	said := model.Run(usual(), nil, e...)
	beats := outsOf(said, 1)
	if len(beats) < size/150-4 || len(beats) > size/150-1 || len(said) != len(beats)+2 {
		t.Fatalf("%d beats, %d outs", len(beats), len(said))
	}
	for i, o := range beats[1:] {
		if o.N != 150 || o.At != beats[i].At+150 {
			t.Fatalf("%+v behind %+v", o, beats[i])
		}
	}
	last := said[len(said)-2:]
	if at := last[0].At; at < size+700 || at > size+830 {
		t.Errorf("%v", last)
	}
	alike(t, last, and(raised(2, last[0].At), loud(last[0].At)))
}
