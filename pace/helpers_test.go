package pace_test

import (
	"math"
	"slices"
	"testing"

	"systole/pace"
)

const (
	most  = math.MaxInt64
	least = math.MinInt64
	maxRR = 1073741824
)

// counts is as what a distance counts.
func counts(rr int64) int64 {
	switch {
	case rr < 1:
		return 1
	case rr > maxRR:
		return maxRR
	}
	return rr
}

// floor is the greatest whole number that is not above a by b, which is above 0.
func floor(a, b int64) int64 {
	whole := a / b
	for whole*b > a {
		whole--
	}
	return whole
}

// lastOf are the last distances of all that came, so many as Many is, as they count.
func lastOf(came []int64) []int64 {
	var l []int64
	for _, rr := range came[max(0, len(came)-8):] {
		l = append(l, counts(rr))
	}
	return l
}

// meanOf is what Mean is by the chapter's words, of all that came.
func meanOf(came []int64) int64 {
	last := lastOf(came)
	if len(last) == 0 {
		return 0
	}
	var sum int64
	for _, rr := range last {
		sum += rr
	}
	return floor(sum, int64(len(last)))
}

// lateOf is what Late is by the chapter's words, of all that came.
func lateOf(came []int64, since int64) bool {
	return len(came) > 0 && since > floor(5*meanOf(came), 3)
}

// times is a list of one distance, again and again.
func times(rr int64, many int) []int64 {
	return slices.Repeat([]int64{rr}, many)
}

// of is a new pace to which these distances came in one call.
func of(t *testing.T, l ...int64) *pace.Pace {
	t.Helper()
	p := pace.New()
	if p == nil {
		t.Fatal("New: nil")
	}
	p.Add(l...)
	return p
}

// is looks at Many and Mean, and that it is late just behind so many samples as are told, twice in a row. Of a pace without distances there are none behind which it is.
func is(t *testing.T, p *pace.Pace, many int, mean, upTo int64) {
	t.Helper()
	for range 2 {
		if got := p.Many(); got != many {
			t.Fatalf("Many: %d; want %d", got, many)
		}
		if got := p.Mean(); got != mean {
			t.Fatalf("Mean: %d; want %d", got, mean)
		}
		if p.Late(upTo) || p.Late(upTo-1) || p.Late(0) || p.Late(-1) || p.Late(least) {
			t.Fatalf("late behind %d, or less; the mean is %d", upTo, mean)
		}
		if late := many > 0; p.Late(upTo+1) != late || p.Late(upTo+2) != late || p.Late(most) != late {
			t.Fatalf("late behind %d, or more: not %v; the mean is %d", upTo+1, late, mean)
		}
	}
}

// isOf holds a pace against the chapter's words, by all that came.
func isOf(t *testing.T, p *pace.Pace, came []int64) {
	t.Helper()
	mean := meanOf(came)
	is(t, p, len(lastOf(came)), mean, floor(5*mean, 3))
}

// held is a pace, and all that came to it since it was made, or Reset.
type held struct {
	*pace.Pace
	came []int64
}

// heldOf is a new pace.
func heldOf(t *testing.T) *held {
	t.Helper()
	return &held{Pace: of(t)}
}

// add lets distances come in one call, and holds the pace against the chapter's words.
func (h *held) add(t *testing.T, l ...int64) {
	t.Helper()
	h.came = append(h.came, l...)
	h.Add(l...)
	isOf(t, h.Pace, h.came)
}

// reset makes it as if none had come, and looks at it.
func (h *held) reset(t *testing.T) {
	t.Helper()
	h.Reset()
	h.came = nil
	is(t, h.Pace, 0, 0, 0)
}

// edges are numbers at which something changes: signs, parts of 3 and of 8, MaxRR, and the ends of ranges of bits, among them those whose lower bits are those of small numbers.
func edges() []int64 {
	l := []int64{0, 1, 2, 3, 4, 5, 6, 7, 8, 9, 15, 16, 17, 40, 72, 200, 300, 333, 334, 11999, 12000, 12001, maxRR / 8, maxRR / 2}
	for _, n := range []int64{0, 1, 2, 3, 7, 8, 9, 300} {
		l = append(l, maxRR-n, maxRR+n)
	}
	for _, k := range []int{15, 16, 31, 32, 47, 48, 59, 60, 61, 62} {
		l = append(l, 1<<k-1, 1<<k, 1<<k+1, 1<<k+777)
	}
	l = append(l, 2*maxRR, 5*maxRR, most/5, most/5+1, most-1, most)
	for _, n := range l {
		l = append(l, -n)
	}
	return append(l, least, least+1, least+777)
}

// noise hands out numbers of all kinds, the same ones each time.
type noise uint64

// upTo is the next number, from 0 up to n - 1.
func (x *noise) upTo(n int) int {
	if *x == 0 {
		*x = 88172645463325252
	}
	*x ^= *x << 13
	*x ^= *x >> 7
	*x ^= *x << 17
	return int(uint64(*x) >> 11 % uint64(n))
}

// whole is a number of 64 bits, of any size and sign.
func (x *noise) whole() int64 {
	return int64(x.upTo(most)<<1+x.upTo(2)) >> x.upTo(64)
}

// kinds are how many kinds of distances there are: small, as those of beats are, over all that counts and a little beyond, at either end of that, of any size, and of all these kinds mixed.
const (
	kinds = 6
	mixed = kinds - 1
)

// distance is one of a kind.
func (x *noise) distance(kind int) int64 {
	if kind == mixed {
		kind = x.upTo(mixed)
	}
	switch kind {
	case 0:
		return int64(x.upTo(30)) - 3
	case 1:
		return int64(40 + x.upTo(400))
	case 2:
		return int64(x.upTo(maxRR+60000000)) - 30000000
	case 3:
		return int64(x.upTo(2))*maxRR + int64(x.upTo(9)) - 4
	}
	return x.whole()
}

// row is so many distances of one kind.
func (x *noise) row(kind, many int) []int64 {
	var l []int64
	for range many {
		l = append(l, x.distance(kind))
	}
	return l
}
