package level_test

import (
	"testing"

	"systole/api"
	"systole/level"
)

// P17.2: Upper is the Noise going by a 4th towards the Signal, which is above it, at it, or below it; and Lower the floor of half of that; written out.
func TestThresholds(t *testing.T) {
	for _, c := range []struct{ signal, noise, upper, lower int64 }{
		{1600, 0, 400, 200}, {4012, 12, 1012, 506}, {2000, 400, 800, 400}, {2001, 400, 800, 400}, {2003, 400, 800, 400}, {2004, 400, 801, 400}, {2007, 400, 801, 400}, {2008, 400, 802, 401}, {1999, 400, 799, 399}, {1996, 400, 799, 399}, {1995, 400, 798, 399},
		{400, 400, 400, 200}, {401, 401, 401, 200}, {402, 402, 402, 201}, {bound, bound, bound, 31457280}, {bound - 1, bound - 1, 62914559, 31457279},
		{401, 400, 400, 200}, {403, 400, 400, 200}, {404, 400, 401, 200}, {399, 400, 399, 199}, {397, 400, 399, 199}, {396, 400, 399, 199}, {395, 400, 398, 199}, {392, 400, 398, 199}, {391, 400, 397, 198},
		{400, 2000, 1600, 800}, {399, 2000, 1599, 799}, {397, 2000, 1599, 799}, {396, 2000, 1599, 799}, {401, 2000, 1600, 800}, {403, 2000, 1600, 800}, {404, 2000, 1601, 800}, {0, 2000, 1500, 750}, {0, 2001, 1500, 750}, {0, 2002, 1501, 750}, {0, 2003, 1502, 751}, {0, 2004, 1503, 751},
		{bound, 0, 15728640, 7864320}, {bound - 1, 0, 15728639, 7864319}, {bound - 4, 0, 15728639, 7864319}, {bound - 5, 0, 15728638, 7864319}, {0, bound, 47185920, 23592960}, {0, bound - 1, 47185919, 23592959}, {1, bound, 47185920, 23592960}, {4, bound, 47185921, 23592960},
	} {
		parts(t, of(c.signal, c.noise), c.upper, c.lower)
	}
}

// P17.2: the floors of Upper, of differences from -17 to 17 of either sign; written out.
func TestUpperFloors(t *testing.T) {
	fourths := []int64{-5, -4, -4, -4, -4, -3, -3, -3, -3, -2, -2, -2, -2, -1, -1, -1, -1, 0, 0, 0, 0, 1, 1, 1, 1, 2, 2, 2, 2, 3, 3, 3, 3, 4, 4}
	for _, from := range []int64{300, 301, 302, 303, 999, 1000, 65536, 30000001, bound - 1000, bound - 17} {
		for i, fourth := range fourths {
			if got := level.Upper(of(from+int64(i)-17, from)); got != from+fourth {
				t.Errorf("Upper of the Noise %d, the Signal being more by %d: %d", from, i-17, got)
			}
		}
	}
}

// P17.2: Upper is at least Least: of estimates from which 255, 256 and 257 come; written out.
func TestUpperAtLeast(t *testing.T) {
	for _, c := range []struct{ signal, noise, upper int64 }{
		{0, 0, 256}, {1, 0, 256}, {0, 1, 256}, {3, 3, 256}, {254, 254, 256}, {255, 255, 256}, {256, 256, 256}, {257, 257, 257}, {258, 258, 258},
		{1019, 0, 256}, {1020, 0, 256}, {1023, 0, 256}, {1024, 0, 256}, {1027, 0, 256}, {1028, 0, 257}, {1031, 0, 257}, {1032, 0, 258},
		{1015, 3, 256}, {963, 12, 256}, {987, 12, 256}, {988, 12, 256}, {991, 12, 256}, {992, 12, 257},
		{256, 255, 256}, {258, 255, 256}, {259, 255, 256}, {262, 255, 256}, {263, 255, 257}, {255, 256, 256}, {252, 256, 256}, {259, 256, 256}, {260, 256, 257}, {256, 257, 256}, {253, 257, 256}, {252, 257, 256}, {0, 257, 256}, {260, 257, 257}, {261, 257, 258},
		{0, 339, 256}, {0, 340, 256}, {0, 341, 256}, {0, 342, 256}, {0, 343, 257}, {0, 344, 258}, {3, 341, 256}, {4, 341, 256}, {5, 341, 257}, {8, 341, 257}, {9, 341, 258},
	} {
		parts(t, of(c.signal, c.noise), c.upper, c.upper/2)
	}
}

// P17.2: Lower of even and of odd thresholds, and of all up to some: never below the half of Least.
func TestLower(t *testing.T) {
	for n := range int64(3000) {
		upper := max(256, n)
		lower := (upper - upper%2) / 2
		parts(t, of(n, n), upper, lower)
		for rest := range int64(4) {
			parts(t, of(4*n+rest, 0), upper, lower)
		}
		if lower < 128 {
			t.Fatalf("%d", lower)
		}
	}
	for n := int64(bound - 3000); n <= bound; n++ {
		parts(t, of(n, n), n, floor(n, 2))
	}
}

// P17.2: levels whose Signal, whose Noise, or both are below 0 or beyond BoundWindow: each counts as the nearest number in both thresholds.
func TestThresholdsNearest(t *testing.T) {
	for _, c := range []struct{ signal, noise, upper, lower int64 }{
		{-1, 0, 256, 128}, {0, -1, 256, 128}, {-1, -1, 256, 128}, {least, least, 256, 128}, {1600, -1, 400, 200}, {1600, least, 400, 200}, {1600, -1 << 32, 400, 200}, {-1, 2000, 1500, 750}, {least, 2000, 1500, 750}, {-1 << 40, 2000, 1500, 750},
		{bound + 1, 0, 15728640, 7864320}, {bound + 4, 0, 15728640, 7864320}, {most, 0, 15728640, 7864320}, {1<<32 + 8, 0, 15728640, 7864320}, {0, bound + 1, 47185920, 23592960}, {0, bound + 4, 47185920, 23592960}, {0, most, 47185920, 23592960}, {0, 1 << 32, 47185920, 23592960},
		{most, -1, 15728640, 7864320}, {most, least, 15728640, 7864320}, {least, most, 47185920, 23592960}, {-1, bound + 1, 47185920, 23592960}, {bound + 1, bound + 1, bound, 31457280}, {most, most, bound, 31457280}, {bound, most, bound, 31457280}, {most, bound, bound, 31457280}, {bound + 8, bound - 8, bound - 6, 31457277}, {bound - 8, bound + 8, bound - 2, 31457279},
	} {
		parts(t, of(c.signal, c.noise), c.upper, c.lower)
	}
	for _, a := range nearest() {
		for _, b := range nearest() {
			as := of(a[1], b[1])
			parts(t, of(a[0], b[0]), upperOf(as), floor(upperOf(as), 2))
		}
	}
}

// P17.2: thresholds are not below Least, and its half, nor beyond the bound, and the half of it; of whatever levels.
func TestThresholdsWithin(t *testing.T) {
	var x noise
	for kind := range kinds {
		for range 20000 {
			l := x.level(kind)
			upper, lower := level.Upper(l), level.Lower(l)
			if upper < 256 || upper > bound || lower < 128 || lower > bound/2 {
				t.Fatalf("%+v: %d and %d", l, upper, lower)
			}
		}
	}
}

// P17.2: May: both numbers at, just within and just beyond 0 and BoundWindow, each alone and both, and at the ends of the range of 64 bits.
func TestMay(t *testing.T) {
	may := []int64{0, 1, 2, 255, 256, 1000, 1 << 20, 62914558, 62914559, 62914560}
	not := []int64{-1, -2, -256, -62914560, 62914561, 62914562, 67108864, 1 << 31, -1 << 31, 1 << 32, 1<<32 + 5, -1 << 32, -1<<32 + 5, 1 << 40, 1 << 62, -1 << 62, -1<<62 + 5, most - 1, most, least + 1, least}
	if !level.May(api.Level{}) {
		t.Error("May of no level")
	}
	for _, a := range may {
		for _, b := range may {
			if !level.May(of(a, b)) {
				t.Errorf("May of %d and %d: false", a, b)
			}
		}
		for _, b := range not {
			if level.May(of(a, b)) || level.May(of(b, a)) {
				t.Errorf("May of %d and %d, or the other way round: true", a, b)
			}
		}
	}
	for _, a := range not {
		for _, b := range not {
			if level.May(of(a, b)) {
				t.Errorf("May of %d and %d: true", a, b)
			}
		}
	}
}

// P17.1, P17.2: whatever Signal, Again and Noise answer may be, whatever they were given; and so may what First answers.
func TestAnswersMay(t *testing.T) {
	var x noise
	for kind := range kinds {
		for range 5000 {
			l := x.level(kind)
			tops := x.tops(kind, x.upTo(4), l)
			for _, got := range []api.Level{level.First(tops...), level.Signal(l, tops...), level.Noise(l, tops...), level.Again(l, x.top(kind, l))} {
				if !level.May(got) || got != of(counts(got.Signal), counts(got.Noise)) {
					t.Fatalf("of %+v with %v: %+v", l, tops, got)
				}
			}
		}
	}
}
