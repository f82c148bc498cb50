package model_test

import "systole/api"

// tread is a row of marks that goes on from sample to sample, as limits see them: not what a detector would say, so that all turns come often.
type tread struct {
	*noise
	limits api.Limits
	at     int64
	row    marks
}

// marks are so many marks of all kinds.
func (x *noise) marks(l api.Limits, many int) marks {
	f := &tread{noise: x, limits: l, at: x.one(0, 0, 1000, maxAt-x.upTo(4000))}
	for len(f.row) < many {
		f.more()
	}
	return f.row[:many]
}

// put puts marks behind the row.
func (f *tread) put(l ...api.Mark) {
	f.row = append(f.row, l...)
}

// more puts some marks of one kind behind the row.
func (f *tread) more() {
	l := f.limits
	switch f.upTo(10) {
	case 0, 1:
		for i := range f.from(1, 2*l.FibN+4) {
			f.put(sample(f.at, l.Fib-1+i&1))
			f.at++
		}
	case 2, 3, 4:
		rr := f.one(l.Tach, l.Tach-1, l.Tach+1, l.Brad, l.Brad-1, l.Brad+1, f.from(1, 2000))
		for range f.from(1, max(l.TachN, l.BradN)+2) {
			f.at += min(rr, l.Asys/2)
			f.put(beat(f.at, rr), sample(f.at, l.Fib-f.upTo(2)))
		}
	case 5, 6:
		f.at += f.one(1, 1, 7, l.Asys-1, l.Asys, l.Asys+1, l.Escape-1, l.Escape, 24000, -1, -l.Asys)
		f.put(sample(f.at, f.whole()))
	case 7:
		f.put(off(f.at))
		for range f.upTo(5) {
			f.put([]api.Mark{dark(f.at), dark(f.at), beat(f.at, f.upTo(300)), sample(f.at, 0), gap(f.at), off(f.at)}[f.upTo(6)])
			f.at += f.one(0, 1, l.Escape, l.Asys)
		}
		if f.upTo(5) > 0 {
			f.put(on(f.at))
		}
	case 8:
		f.put([]api.Mark{gap(f.at), on(f.at), dark(f.at), {At: f.at}, {Kind: 7, At: f.at}}[f.upTo(5)])
	default:
		f.put(api.Mark{
			Kind: int(f.one(1, 2, 3, 4, 4, 4, 5, 5, 6, 6, 0, 7, f.whole())),
			At:   f.one(f.at, f.at, f.at+f.upTo(900), f.whole(), maxAt-f.from(-2, 900)),
			H:    f.whole(),
			Beat: api.Beat{At: f.whole(), Seen: f.whole(), RR: f.one(0, -1, 50, f.whole(), l.Tach, l.Brad), Back: f.upTo(2) == 0},
		})
	}
}
