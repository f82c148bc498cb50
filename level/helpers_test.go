package level_test

import (
	"math"
	"slices"
	"testing"

	"systole/api"
	"systole/level"
)

const (
	most  = math.MaxInt64
	least = math.MinInt64
	bound = 62914560
)

// counts is as what a number counts.
func counts(n int64) int64 {
	switch {
	case n < 0:
		return 0
	case n > bound:
		return bound
	}
	return n
}

// floor is the greatest whole number that is not above a by b, which is above 0.
func floor(a, b int64) int64 {
	whole := a / b
	for whole*b > a {
		whole--
	}
	return whole
}

// going is a going by a k-th towards b.
func going(a, b, k int64) int64 {
	return counts(a) + floor(counts(b)-counts(a), k)
}

// firstOf is what First is by the chapter's words.
func firstOf(tops []int64) api.Level {
	var high int64
	for _, top := range tops {
		if counts(top) > high {
			high = counts(top)
		}
	}
	return of(high, 0)
}

// signalOf is what Signal is by the chapter's words.
func signalOf(l api.Level, tops []int64) api.Level {
	signal := counts(l.Signal)
	for _, top := range tops {
		signal = going(signal, top, 8)
	}
	return of(signal, counts(l.Noise))
}

// noiseOf is what Noise is by the chapter's words.
func noiseOf(l api.Level, tops []int64) api.Level {
	noise := counts(l.Noise)
	for _, top := range tops {
		noise = going(noise, top, 8)
	}
	return of(counts(l.Signal), noise)
}

// againOf is what Again is by the chapter's words.
func againOf(l api.Level, top int64) api.Level {
	return of(going(l.Signal, top, 4), counts(l.Noise))
}

// upperOf is what Upper is by the chapter's words.
func upperOf(l api.Level) int64 {
	upper := going(l.Noise, l.Signal, 4)
	if upper < 256 {
		return 256
	}
	return upper
}

// of is a level by its two numbers.
func of(signal, noise int64) api.Level {
	return api.Level{Signal: signal, Noise: noise}
}

// same holds a level against the one that is wanted.
func same(t *testing.T, got, want api.Level) {
	t.Helper()
	if got != want {
		t.Fatalf("%+v; want %+v", got, want)
	}
}

// parts holds the thresholds of a level against those that are wanted, twice in a row.
func parts(t *testing.T, l api.Level, upper, lower int64) {
	t.Helper()
	for range 2 {
		if got := level.Upper(l); got != upper {
			t.Fatalf("Upper of %+v: %d; want %d", l, got, upper)
		}
		if got := level.Lower(l); got != lower {
			t.Fatalf("Lower of %+v: %d; want %d", l, got, lower)
		}
	}
}

// asked holds all calls on a level against the chapter's words.
func asked(t *testing.T, l api.Level, tops ...int64) {
	t.Helper()
	kept := slices.Clone(tops)
	if got, want := level.First(tops...), firstOf(kept); got != want {
		t.Fatalf("First of %v: %+v; want %+v", kept, got, want)
	}
	if got, want := level.Signal(l, tops...), signalOf(l, kept); got != want {
		t.Fatalf("Signal of %+v with %v: %+v; want %+v", l, kept, got, want)
	}
	if got, want := level.Noise(l, tops...), noiseOf(l, kept); got != want {
		t.Fatalf("Noise of %+v with %v: %+v; want %+v", l, kept, got, want)
	}
	for _, top := range kept {
		if got, want := level.Again(l, top), againOf(l, top); got != want {
			t.Fatalf("Again of %+v with %d: %+v; want %+v", l, top, got, want)
		}
	}
	upper := upperOf(l)
	parts(t, l, upper, floor(upper, 2))
	if want := l == of(counts(l.Signal), counts(l.Noise)); level.May(l) != want {
		t.Fatalf("May of %+v: not %v", l, want)
	}
	if !slices.Equal(tops, kept) {
		t.Fatalf("the tops are %v; were %v", tops, kept)
	}
}

// times is a list of one top, again and again.
func times(top int64, many int) []int64 {
	return slices.Repeat([]int64{top}, many)
}

// orders hands out each order of a list.
func orders(l []int64, each func(l []int64)) {
	if len(l) < 2 {
		each(slices.Clone(l))
		return
	}
	for i, first := range l {
		rest := slices.Concat(l[:i], l[i+1:])
		orders(rest, func(rest []int64) { each(slices.Concat([]int64{first}, rest)) })
	}
}

// edges are numbers at which something changes: signs, parts of 4 and of 8, Least, the bound, and the ends of ranges of bits, among them those whose lower bits are those of small numbers.
func edges() []int64 {
	l := []int64{0, 1, 2, 3, 4, 5, 7, 8, 9, 15, 16, 17, 127, 128, 129, 255, 256, 257, 340, 342, 512, 1023, 1024, 1027, 1028, bound / 4, bound / 2}
	for _, n := range []int64{0, 1, 3, 4, 5, 7, 8, 9, 300} {
		l = append(l, bound-n, bound+n)
	}
	for _, k := range []int{15, 16, 31, 32, 47, 48, 61, 62} {
		l = append(l, 1<<k-1, 1<<k, 1<<k+1, 1<<k+777)
	}
	l = append(l, 2*bound, most-1, most)
	for _, n := range l {
		l = append(l, -n)
	}
	return append(l, least, least+777)
}

// noise hands out numbers of all kinds, the same ones each time.
type noise uint64

// upTo is the next number, from 0 up to n - 1.
func (x *noise) upTo(n int) int {
	if *x == 0 {
		*x = 88172645463325252
	}
	*x ^= *x << 13
	*x ^= *x >> 7
	*x ^= *x << 17
	return int(uint64(*x) >> 11 % uint64(n))
}

// near is a number at most so far from 0, of either sign.
func (x *noise) near(far int) int64 {
	return int64(x.upTo(2*far+1) - far)
}

// kinds are how many kinds of tops there are: small, about Least, over all that counts and a little beyond, at the bounds, of any size, close to either number of a level, and of all these kinds mixed.
const kinds = 7

// top is one of a kind, by a level to which it may be close.
func (x *noise) top(kind int, l api.Level) int64 {
	if kind == kinds-1 {
		kind = x.upTo(kinds - 1)
	}
	switch kind {
	case 0:
		return int64(x.upTo(80)) - 10
	case 1:
		return int64(x.upTo(3000))
	case 2:
		return int64(x.upTo(bound+2000000)) - 1000000
	case 3:
		return int64(x.upTo(2))*bound + x.near(20)
	case 4:
		return int64(x.upTo(most)<<1+x.upTo(2)) >> x.upTo(64)
	}
	if x.upTo(2) == 0 {
		return counts(l.Signal) + x.near(20)
	}
	return counts(l.Noise) + x.near(20)
}

// tops are so many of one kind.
func (x *noise) tops(kind, many int, l api.Level) []int64 {
	var tops []int64
	for range many {
		tops = append(tops, x.top(kind, l))
	}
	return tops
}

// level is one whose numbers are of one kind.
func (x *noise) level(kind int) api.Level {
	near := of(x.top(2, api.Level{}), x.top(1, api.Level{}))
	return of(x.top(kind, near), x.top(kind, near))
}
