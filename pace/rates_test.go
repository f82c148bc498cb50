package pace_test

import (
	"testing"

	"systole/pace"
)

// P18.2: the floor of 12000 by the distance; written out.
func TestRate(t *testing.T) {
	for _, c := range []struct{ rr, want int64 }{
		{1, 12000}, {2, 6000}, {3, 4000}, {4, 3000}, {5, 2400}, {7, 1714}, {8, 1500}, {9, 1333}, {11, 1090}, {13, 923}, {40, 300}, {60, 200}, {72, 166}, {80, 150}, {99, 121}, {100, 120}, {101, 118},
		{119, 100}, {120, 100}, {121, 99}, {199, 60}, {200, 60}, {201, 59}, {203, 59}, {204, 58}, {239, 50}, {240, 50}, {241, 49}, {300, 40}, {301, 39}, {400, 30}, {2000, 6}, {2001, 5},
		{4000, 3}, {4001, 2}, {5999, 2}, {6000, 2}, {6001, 1}, {11998, 1}, {11999, 1}, {12000, 1}, {12001, 0}, {12002, 0}, {24000, 0},
		{maxRR - 1, 0}, {maxRR, 0}, {maxRR + 1, 0}, {1 << 31, 0}, {1 << 32, 0}, {1<<32 + 1, 0}, {1<<32 + 60, 0}, {1 << 62, 0}, {most - 1, 0}, {most, 0},
	} {
		if got := pace.Rate(c.rr); got != c.want {
			t.Errorf("Rate(%d): %d; want %d", c.rr, got, c.want)
		}
	}
}

// P18.2: 0 of a distance below 1.
func TestRateBelowOne(t *testing.T) {
	for _, rr := range []int64{0, -1, -2, -7, -60, -200, -11999, -12000, -12001, -maxRR, -1 << 31, -1 << 32, -1<<32 + 1, -1<<32 + 60, -1 << 62, -1<<62 + 200, least + 1, least + 200, least} {
		if got := pace.Rate(rr); got != 0 {
			t.Errorf("Rate(%d): %d", rr, got)
		}
	}
}

// P18.2: of each distance up to some it is the greatest number of which so many distances are within 12000 samples; beyond these it is 0.
func TestEachRate(t *testing.T) {
	for rr := int64(1); rr < 30000; rr++ {
		got := pace.Rate(rr)
		if got*rr > 12000 || (got+1)*rr <= 12000 || got < 0 {
			t.Fatalf("Rate(%d): %d", rr, got)
		}
	}
	for _, rr := range edges() {
		if got := pace.Rate(rr); (rr < 1 || rr > 12000) && got != 0 {
			t.Errorf("Rate(%d): %d", rr, got)
		}
	}
}

// P18.2: of a longer distance it is never more.
func TestRateFalls(t *testing.T) {
	for rr := int64(1); rr < 30000; rr++ {
		if pace.Rate(rr+1) > pace.Rate(rr) {
			t.Fatalf("Rate(%d): %d; Rate(%d): %d", rr, pace.Rate(rr), rr+1, pace.Rate(rr+1))
		}
	}
}
