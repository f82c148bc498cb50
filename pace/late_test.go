package pace_test

import (
	"testing"
)

// P18.1: Late just at, and just above, the floor of 5 times Mean by 3, of means that leave each rest; written out.
func TestLate(t *testing.T) {
	for _, c := range []struct{ mean, upTo int64 }{
		{1, 1}, {2, 3}, {3, 5}, {4, 6}, {5, 8}, {6, 10}, {7, 11}, {8, 13}, {9, 15}, {15, 25}, {40, 66}, {72, 120},
		{99, 165}, {100, 166}, {101, 168}, {120, 200}, {199, 331}, {200, 333}, {201, 335}, {300, 500}, {301, 501}, {302, 503}, {1000, 1666}, {12000, 20000}, {12001, 20001}, {12002, 20003},
		{429496729, 715827881}, {429496730, 715827883}, {429496731, 715827885}, {maxRR - 4, 1789569700}, {maxRR - 3, 1789569701}, {maxRR - 2, 1789569703}, {maxRR - 1, 1789569705}, {maxRR, 1789569706},
	} {
		p := of(t, c.mean)
		if p.Late(c.upTo) {
			t.Errorf("of %d: late behind %d", c.mean, c.upTo)
		}
		if !p.Late(c.upTo + 1) {
			t.Errorf("of %d: not late behind %d", c.mean, c.upTo+1)
		}
		for many := 1; many <= 10; many++ {
			is(t, of(t, times(c.mean, many)...), min(many, 8), c.mean, c.upTo)
		}
	}
}

// P18.1: what is late hangs on the floor of the mean, not on what the floor left: of 16 and 17 behind 27, though 5 times 33 by 6 is above 27; written out.
func TestLateOfTheFloor(t *testing.T) {
	for _, c := range []struct {
		l          []int64
		mean, upTo int64
	}{
		{[]int64{16, 17}, 16, 26}, {[]int64{1, 2}, 1, 1}, {[]int64{1, 1, 3}, 1, 1}, {[]int64{1, 2, 2}, 1, 1}, {[]int64{100, 100, 102}, 100, 166}, {[]int64{100, 101, 101}, 100, 166}, {[]int64{3, 3, 3, 4, 4, 4, 4, 4}, 3, 5}, {[]int64{2, 2, 2, 2, 2, 2, 2, 9}, 2, 3}, {[]int64{maxRR, maxRR - 1}, maxRR - 1, 1789569705},
	} {
		is(t, of(t, c.l...), len(c.l), c.mean, c.upTo)
	}
}

// P18.1: no beat is late behind 0, nor behind numbers below 0, however short distances are; and each is behind the greatest number, however long they are.
func TestLateAtTheEnds(t *testing.T) {
	for _, rr := range edges() {
		for many := 1; many <= 9; many++ {
			p := of(t, times(rr, many)...)
			for _, since := range []int64{0, -1, -2, -200, -maxRR, -1 << 31, -1<<31 - 1, -1 << 32, -1<<32 + 5, -1 << 62, least + 1, least} {
				if p.Late(since) {
					t.Errorf("of %d: late behind %d", rr, since)
				}
			}
			for _, since := range []int64{1789569707, 5 * maxRR / 2, 1 << 31, 1 << 32, 1<<32 + 1, 1 << 33, 1 << 40, 1 << 62, most - 1, most} {
				if !p.Late(since) {
					t.Errorf("of %d: not late behind %d", rr, since)
				}
			}
		}
	}
}

// P18.1: each number to ask for, of each mean, by the chapter's words.
func TestLateAtEdges(t *testing.T) {
	for _, rr := range edges() {
		p := of(t, rr, rr)
		for _, since := range edges() {
			if got, want := p.Late(since), lateOf([]int64{rr, rr}, since); got != want {
				t.Errorf("of %d: Late(%d): %v", rr, since, got)
			}
		}
	}
}

// P18.1: a pace without distances is never late: a new one, one that was Reset, and one of which no distance was handed in.
func TestLateOfNone(t *testing.T) {
	once := of(t, 1, 1, 1)
	once.Reset()
	none := of(t)
	none.Add()
	for _, since := range edges() {
		if of(t).Late(since) || once.Late(since) || none.Late(since) {
			t.Errorf("late behind %d", since)
		}
	}
	// As soon as one comes it may be.
	once.Add(1)
	if once.Late(1) || !once.Late(2) {
		t.Error("of one distance of 1: not late just behind 2")
	}
}
