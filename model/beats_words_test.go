package model_test

import (
	"slices"

	"systole/api"
)

// peaks is what chapter 16's words say of all sums and slopes.
type peaks struct {
	n int64
	// Since it is falling; nothing while it is rising.
	valley []int64
	// The sums and the slopes' distances since it is rising, and the step of the first one; nothing while it is falling.
	sums, far []int64
	from      int64
}

// next is the peak that is seen at one more step, if there is one.
func (p *peaks) next(w, d int64) []api.Peak {
	n := p.n
	p.n++
	w = nearest(w, 0, 62914560)
	d = nearest(max(d, -d), 0, 107136)
	if len(p.sums) == 0 {
		if len(p.valley) == 0 || w < p.valley[0] {
			p.valley = []int64{w}
		}
		if w > 2*p.valley[0]+64 {
			p.sums, p.far, p.from, p.valley = []int64{w}, []int64{d}, n, nil
		}
		return nil
	}
	p.sums, p.far = append(p.sums, w), append(p.far, d)
	top := slices.Max(p.sums)
	if 2*w >= top {
		return nil
	}
	seen := api.Peak{At: p.from + int64(slices.Index(p.sums, top)), Seen: n, Top: top, Steep: slices.Max(p.far)}
	p.sums, p.far, p.valley = nil, nil, []int64{w}
	return []api.Peak{seen}
}

// goes is a number going from a by one of so many parts towards b (17).
func goes(a, b, parts int64) int64 {
	return a + floor(b-a, parts)
}

// beats is what the chapters' words (16 to 19) say of all waves.
type beats struct {
	peaks
	start, learnt, signal, noise int64
	// The last beat's peak, if there is one; what was kept since then; and all distances.
	last, kept []api.Peak
	rrs        []int64
}

// upper is the upper threshold (17).
func (b *beats) upper() int64 {
	return max(goes(b.noise, b.signal, 4), 256)
}

// next is the beats that are told at one more step.
func (b *beats) next(at int64, w api.Wave) []api.Beat {
	n := b.n
	if n == 0 {
		b.start = nearest(at, 0, maxAt)
	}
	found := b.peaks.next(w.W, w.D)
	if n == learn {
		b.signal, b.noise = b.learnt, 0
	}
	var l []api.Beat
	for _, p := range found {
		if n < learn {
			b.learnt = max(b.learnt, p.Top)
		} else {
			l = append(l, b.judge(n, p)...)
		}
	}
	if n >= learn {
		l = append(l, b.back(n)...)
	}
	return l
}

// judge is what comes of a peak that is seen at a step.
func (b *beats) judge(n int64, p api.Peak) []api.Beat {
	behind := func(far int64) bool { return len(b.last) > 0 && p.At-b.last[0].At < far }
	switch {
	case behind(40):
		return nil
	case p.Top <= b.upper():
		b.noise = goes(b.noise, p.Top, 8)
		b.kept = append(b.kept, p)
		return nil
	case behind(72) && 2*p.Steep < b.last[0].Steep:
		b.noise = goes(b.noise, p.Top, 8)
		return nil
	}
	b.signal = goes(b.signal, p.Top, 8)
	return []api.Beat{b.beat(n, p, false)}
}

// back is the beat that is found by looking back at a step, if there is one.
func (b *beats) back(n int64) []api.Beat {
	if len(b.last) == 0 || len(b.rrs) == 0 || len(b.kept) == 0 {
		return nil
	}
	eight := b.rrs[max(0, len(b.rrs)-8):]
	var sum int64
	for _, rr := range eight {
		sum += rr
	}
	// Of equal ones MaxFunc answers the first one.
	c := slices.MaxFunc(b.kept, func(x, y api.Peak) int { return int(x.Top - y.Top) })
	if n-b.last[0].At <= 5*(sum/int64(len(eight)))/3 || c.Top <= b.upper()/2 {
		return nil
	}
	b.signal = goes(b.signal, c.Top, 4)
	return []api.Beat{b.beat(n, c, true)}
}

// beat is a peak as a beat that is told at a step.
func (b *beats) beat(n int64, p api.Peak, back bool) api.Beat {
	told := api.Beat{At: b.start + max(0, p.At-38), Seen: b.start + n, Back: back}
	if len(b.last) > 0 {
		told.RR = p.At - b.last[0].At
		b.rrs = append(b.rrs, told.RR)
	}
	b.last, b.kept = []api.Peak{p}, nil
	return told
}
