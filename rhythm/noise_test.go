package rhythm_test

import (
	"systole/api"
)

// noise hands out numbers of all kinds, the same ones each time.
type noise uint64

// upTo is the next number, from 0 up to n - 1.
func (x *noise) upTo(n int64) int64 {
	if *x == 0 {
		*x = 88172645463325252
	}
	*x ^= *x << 13
	*x ^= *x >> 7
	*x ^= *x << 17
	return int64(uint64(*x) >> 11 % uint64(n))
}

// from is a number from lo to hi.
func (x *noise) from(lo, hi int64) int64 {
	return lo + x.upTo(hi-lo+1)
}

// whole is a number of 64 bits, of any size and sign.
func (x *noise) whole() int64 {
	return (x.upTo(most)<<1 + x.upTo(2)) >> x.upTo(64)
}

// one is one of these numbers.
func (x *noise) one(l ...int64) int64 {
	return l[x.upTo(int64(len(l)))]
}

// limits are some that may be.
func (x *noise) limits() api.Limits {
	tach := x.one(40, 400, x.from(40, 400))
	return api.Limits{
		Mains:  int(x.one(0, 50, 60)),
		Asys:   x.one(200, 6000, x.from(200, 6000)),
		Tach:   tach,
		TachN:  x.one(1, 2, 20, x.from(1, 20)),
		Brad:   x.one(tach+1, 2000, x.from(tach+1, 2000)),
		BradN:  x.one(1, 2, 20, x.from(1, 20)),
		Fib:    x.one(1, highest, x.from(1, highest)),
		FibN:   x.one(1, 2, 5, 12, 200, x.from(1, 200)),
		Escape: x.from(1, 1<<20),
	}
}

// flow is a row of marks that goes on from sample to sample.
type flow struct {
	*noise
	limits api.Limits
	at     int64
	row    []api.Mark
}

// rowOf is so many marks, as limits see them: of stretches of each kind.
func (x *noise) rowOf(l api.Limits, many int) []api.Mark {
	f := &flow{noise: x, limits: l, at: x.one(0, 0, 1000, maxAt-x.upTo(9000))}
	for len(f.row) < many {
		f.stretch()
	}
	return f.row[:many]
}

// put lets a mark come, at the sample where the row is.
func (f *flow) put(m api.Mark) {
	f.row = append(f.row, at(f.at, m))
}

// stretch puts some marks of one kind.
func (f *flow) stretch() {
	switch f.upTo(12) {
	case 0, 1:
		f.flutters()
	case 2:
		f.waves()
	case 3, 4, 5, 6:
		f.beating()
	case 7, 8:
		f.waiting()
	case 9:
		f.put([]api.Mark{gap(0), off(0), on(0), gap(0), on(0), dark(0), {Kind: 0}, {Kind: 7}}[f.upTo(8)])
	case 10:
		f.leadless()
	default:
		for range f.from(1, 6) {
			f.row = append(f.row, f.any())
		}
	}
}

// flutters puts samples that cross the height, the more of them the more crossings there must be.
func (f *flow) flutters() {
	for i := range f.from(1, 2*f.limits.FibN+6) {
		f.at++
		f.put(sample(0, f.limits.Fib-1+i&1))
	}
}

// waves puts samples of one kind: near the height, seldom below it, or of any size.
func (f *flow) waves() {
	kind := f.upTo(3)
	for range f.from(1, f.one(10, 60, 500)) {
		f.at++
		f.put(sample(0, [...]int64{f.limits.Fib + f.from(-2, 2), f.limits.Fib + f.from(-10, 990), f.whole()}[kind]))
	}
}

// beating puts beats with distances of one kind, and a few samples between.
func (f *flow) beating() {
	kind := f.upTo(7)
	for range f.from(1, f.one(3, 8, 24)) {
		rr := f.distance(kind)
		f.at += min(max(rr, 0), 2000)
		f.row = append(f.row, beat(f.at-f.one(0, 0, 38, f.upTo(200)), rr))
		if f.upTo(3) == 0 {
			f.put(sample(0, f.limits.Fib+f.from(-3, 2)))
		}
	}
}

// distance is one of a kind: fast, slow, between, at their ends, none, or any number.
func (f *flow) distance(kind int64) int64 {
	switch kind {
	case 0, 1:
		return f.from(1, f.limits.Tach)
	case 2, 3:
		return f.from(f.limits.Brad, f.limits.Brad+500)
	case 4:
		return f.from(f.limits.Tach, f.limits.Brad)
	case 5:
		return f.one(f.limits.Tach, f.limits.Brad) + f.from(-1, 1)
	}
	return f.one(0, -1, -f.upTo(3000), 1, most, least, f.whole(), f.from(1, f.limits.Tach))
}

// waiting puts samples that leave others out, up to where a beat is missing, and around there.
func (f *flow) waiting() {
	for range f.from(1, 6) {
		f.at += f.one(1, 2, 100, f.limits.Asys-1, f.limits.Asys, f.limits.Asys+1, f.limits.Asys/2, -f.limits.Asys, -1)
		if f.upTo(6) == 0 {
			f.put(beat(0, f.distance(4)))
		} else {
			f.put(sample(0, f.limits.Fib+f.from(-9, 3)))
		}
	}
}

// leadless puts marks behind a lead that goes off, and mostly lets it come on again.
func (f *flow) leadless() {
	f.put(off(0))
	for range f.upTo(9) {
		f.at += f.one(1, 1, f.limits.Asys)
		f.put([]api.Mark{dark(0), dark(0), sample(0, f.limits.Fib), beat(0, f.distance(0)), gap(0), off(0)}[f.upTo(6)])
	}
	if f.upTo(5) > 0 {
		f.at++
		f.put(on(0))
	}
}

// any is a mark of any kind, at any sample.
func (f *flow) any() api.Mark {
	return api.Mark{
		Kind: int(f.one(1, 2, 3, 4, 4, 5, 6, 6, 0, 7, -1, f.whole())),
		At:   f.one(f.at, f.at+f.limits.Asys, f.whole(), maxAt-f.from(-2, 6001)),
		H:    f.whole(),
		Beat: api.Beat{At: f.whole(), Seen: f.whole(), RR: f.distance(f.upTo(7)), Back: f.upTo(2) == 0},
	}
}
