package qrs_test

import (
	"testing"

	"systole/api"
)

// P19.4 and P19.5, and what a beat may be at all: none is told in the first Learn steps; each one but the first is at least Refr behind the one ahead; none is ahead of the start; each one's Seen is that of the step at which it is told, and not ahead of where its peak is.
func TestApart(t *testing.T) {
	for kind := range kinds {
		s := source{noise: noise(50 + kind)}
		for range 20 {
			d, words := made(t), newReckoning()
			start := s.one(0, 5, 1000, maxAt)
			var last api.Beat
			beats := 0
			for n := range int64(4000) {
				w := s.next(kind, &words)
				words.push(start+n, w)
				for _, b := range d.Push(start+n, w) {
					switch {
					case n < 400:
						t.Fatalf("at step %d: %v", n, b)
					case beats == 0 && b.RR != 0 || beats > 0 && (b.RR < 40 || b.At-last.At < 40):
						t.Fatalf("%v behind %v", b, last)
					case b.Seen != start+n || b.At < start || b.At > start && b.At+38 >= b.Seen:
						t.Fatalf("at %d: %v", start+n, b)
					case beats > 0 && last.At > start && b.At-last.At != b.RR:
						t.Fatalf("%v behind %v", b, last)
					}
					last = b
					beats++
				}
			}
		}
	}
}

// P19.6: where all sums are 0, or count as it, there are no beats, whatever the slopes are, and all else.
func TestQuiet(t *testing.T) {
	var x noise
	slopes := []func() int64{
		func() int64 { return 0 },
		func() int64 { return x.near(0, steep) },
		func() int64 { return x.one(least, most, steep, -steep) },
		x.whole,
	}
	for _, slope := range slopes {
		for _, sums := range [][]int64{{0}, {-1}, {least}, {0, -1, -500, least}} {
			d := made(t)
			for n := range int64(4000) {
				w := api.Wave{H: x.whole(), D: slope(), E: x.whole(), W: x.one(sums...)}
				if l := d.Push(x.whole(), w); len(l) > 0 {
					t.Fatalf("at step %d: %v", n, l)
				}
			}
			stands(t, d, 4000, false, api.Level{}, 0)
		}
	}
}

// P19.6: nor are there beats of sums that are all the same, which have no peaks.
func TestAllTheSame(t *testing.T) {
	for _, v := range edges() {
		d := made(t)
		for n := range int64(1000) {
			if l := d.Push(n, api.Wave{H: v, D: v, E: v, W: v}); len(l) > 0 {
				t.Fatalf("%d at step %d: %v", v, n, l)
			}
		}
		stands(t, d, 1000, false, api.Level{}, 0)
	}
}

// alike lets peaks of tops from least to its double come, with so many steps from each one to the next one; and looks that each of them that is seen behind the learning is a beat, and that there is no other one.
func alike(t *testing.T, x *noise, lowest int64, first int64, apart, slope func() int64) {
	t.Helper()
	const start = 7000
	d := made(t)
	var got, want []api.Beat
	place, last, step := first, int64(-1), int64(0)
	push := func(sum int64) {
		got = append(got, d.Push(start+step, api.Wave{W: sum, D: slope()})...)
		step++
	}
	for place < 4000 {
		for step < place {
			push(x.upTo(65))
		}
		top := min(x.near(lowest+lowest/2, lowest/2), 2*lowest)
		many := 1 + x.upTo(60)
		for range many {
			push(top)
		}
		if step >= 400 {
			b := api.Beat{At: start + place - 38, Seen: start + step}
			if last >= 0 {
				b.RR = place - last
			}
			want, last = append(want, b), place
		}
		push(0)
		place += apart()
	}
	for range 3000 {
		push(x.upTo(65))
	}
	same(t, got, want)
}

// P19.7: of peaks that are alike each one behind the learning is a beat, and no other one: of all heights, all distances from TWave on, and whatever the slopes are.
func TestAlike(t *testing.T) {
	var x noise
	aparts := []func() int64{
		func() int64 { return 72 },
		func() int64 { return 72 + x.upTo(3) },
		func() int64 { return 72 + x.upTo(300) },
		func() int64 { return x.one(72, 72, 72, 72, 1000) },
		func() int64 { return 390 },
	}
	slopes := []func() int64{
		func() int64 { return 0 },
		func() int64 { return x.upTo(100) },
		func() int64 { return x.one(0, steep) },
		x.whole,
	}
	for _, lowest := range []int64{257, 258, 300, 511, 512, 513, 1000, 5000, 1000000, bound / 2} {
		for _, apart := range aparts {
			for _, slope := range slopes {
				for range 3 {
					alike(t, &x, lowest, 2+x.upTo(330), apart, slope)
				}
			}
		}
	}
}

// P19.7: likewise where the one that it learns from is the highest, or the lowest, and all others are as low, or as high, as they may be.
func TestAlikeByTurns(t *testing.T) {
	for _, lowest := range []int64{257, 300, 1001, bound / 2} {
		for _, tops := range [][]int64{{lowest}, {2 * lowest}, {lowest, 2 * lowest}, {2 * lowest, lowest}, {2 * lowest, lowest, lowest, lowest, lowest, lowest, lowest}, {lowest, 2 * lowest, 2 * lowest, 2 * lowest}} {
			for _, learntTop := range []int64{lowest, 2 * lowest} {
				h := learnt(t, learntTop)
				var want []api.Beat
				for i := range int64(40) {
					step := 410 + 72*i
					h.peak(t, step, tops[int(i)%len(tops)], 30-i%2*30)
					want = append(want, at(step, step+1, 72*min(i, 1)))
				}
				h.quiet(t, 5000)
				h.told(t, want...)
			}
		}
	}
}

// P19.7: the bounds of it: a peak of Least is none, nor need one be that is below half of another one.
func TestNotAlike(t *testing.T) {
	h := learnt(t, 256)
	for i := range int64(20) {
		h.peak(t, 450+100*i, 256, 30)
	}
	h.quiet(t, 4000)
	h.told(t)
	h = learnt(t, 4000)
	for i := range int64(20) {
		h.peak(t, 450+100*i, 1000, 30)
	}
	h.quiet(t, 4000)
	h.told(t)
}
