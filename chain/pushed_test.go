package chain_test

import (
	"math"
	"slices"
	"testing"

	"systole/api"
	"systole/chain"
)

// The chapter's example.
func TestExample(t *testing.T) {
	for _, mains := range known() {
		for many := range 300 {
			silent(t, made(t, mains), times(500, many)...)
		}
		c := made(t, mains)
		for i := range 1000 {
			if got := c.Push(500); got != (api.Wave{}) || !chain.Zero(got) {
				t.Fatalf("mains %d, at %d: %v", mains, i, got)
			}
			baseIs(t, c, 500)
		}
	}
}

// P15.1: there are chains for mains of 0, 50 and 60 alone.
func TestMains(t *testing.T) {
	for _, mains := range known() {
		noBase(t, made(t, mains))
	}
	wrong := []int{
		-1, 1, 2, 25, 30, 49, 51, 55, 59, 61, 100, 110, 120, -49, -50, -51, -59, -60, -61,
		1 << 8, 1<<8 + 50, 1<<16 + 60, 1 << 31, 1 << 32, 1<<32 + 50, 1<<32 + 60, -1 << 32, -1<<32 + 50,
		math.MaxInt, math.MaxInt - 1, math.MinInt, math.MinInt + 50, math.MinInt + 60,
	}
	for _, mains := range wrong {
		if c, e := chain.New(mains); c != nil || e != api.ErrArg {
			t.Errorf("New(%d): %v, error %d; want nil and ErrArg", mains, c, e)
		}
	}
}

// P15.1: nothing came to a new chain, whichever call is the first one.
func TestNew(t *testing.T) {
	for _, mains := range known() {
		for _, v := range edges() {
			heldOf(t, mains).push(t, v)
			heldOf(t, mains).block(t, v)
			heldOf(t, mains).block(t, slices.Concat([]int32{v}, times(0, 20), []int32{v, v, 70}, times(9, 60))...)
			h := heldOf(t, mains)
			h.reset(t)
			h.push(t, v)
			h.push(t, 1000)
			h = heldOf(t, mains)
			h.based(t)
			h.push(t, v)
		}
		heldOf(t, mains).block(t)
		h := heldOf(t, mains)
		h.reset(t)
		h.reset(t)
		h.block(t)
		h.block(t, -9000, 300, -7, 0, 40, 0, 0)
	}
}

// P15.1: each call of a chain that no call made, that is nil: nothing is done, and it stays so.
func TestNil(t *testing.T) {
	var c *chain.Chain
	noBase(t, c)
	for range 2 {
		for _, v := range edges() {
			if got := c.Push(v); got != (api.Wave{}) {
				t.Errorf("Push(%d) of nil: %v", v, got)
			}
			if got := c.Block(v, 700, v); len(got) != 0 {
				t.Errorf("Block of nil: %v", got)
			}
			noBase(t, c)
		}
		if got := c.Block(); len(got) != 0 {
			t.Errorf("Block of no sample of nil: %v", got)
		}
		c.Reset()
		noBase(t, c)
		if c != nil {
			t.Error("it is not nil any more")
		}
	}
}

// P15.1: Base is what came first, as what it counts, till Reset.
func TestBase(t *testing.T) {
	for _, mains := range known() {
		c := made(t, mains)
		noBase(t, c)
		c.Block()
		noBase(t, c)
		c.Push(700)
		baseIs(t, c, 700)
		c.Block()
		baseIs(t, c, 700)
		c.Push(-3)
		baseIs(t, c, 700)
		for range 40 {
			c.Block(1, top, foot, 0, -700, most, least)
			baseIs(t, c, 700)
		}
		c.Reset()
		noBase(t, c)
		c.Reset()
		c.Block()
		noBase(t, c)
		c.Block(-41, 42, 43)
		baseIs(t, c, -41)
		c.Block(times(5, 300)...)
		baseIs(t, c, -41)
		c.Reset()
		noBase(t, c)
		// A base of 0 is there, too.
		c.Push(0)
		baseIs(t, c, 0)
		c.Push(9)
		baseIs(t, c, 0)
	}
}

// P15.1: the base is from Low to High, whatever came first.
func TestBaseNearest(t *testing.T) {
	for _, v := range []struct{ first, base int32 }{
		{0, 0}, {1, 1}, {-1, -1}, {500, 500}, {top - 1, 32766}, {top, 32767}, {top + 1, 32767}, {top + 2, 32767},
		{foot + 1, -32767}, {foot, -32768}, {foot - 1, -32768}, {foot - 2, -32768}, {65535, 32767}, {65536, 32767},
		{65536 + 77, 32767}, {-65536, -32768}, {-65536 + 77, -32768}, {most, 32767}, {most - 1, 32767}, {least, -32768}, {least + 1, -32768},
	} {
		for _, mains := range known() {
			c := made(t, mains)
			if got := c.Push(v.first); got != (api.Wave{}) {
				t.Errorf("mains %d: Push(%d), the first one: %v", mains, v.first, got)
			}
			baseIs(t, c, v.base)
			c.Push(-v.base)
			baseIs(t, c, v.base)
			c.Reset()
			c.Block(v.first, 3)
			baseIs(t, c, v.base)
		}
	}
}

// P15.1: to be asked for Base does nothing: with it and without, all answers are the same.
func TestBaseDoesNothing(t *testing.T) {
	for _, samples := range rows() {
		whole := made(t, 60).Block(samples...)
		c := made(t, 60)
		base := int32(nearest(int64(samples[0]), foot, top))
		noBase(t, c)
		for i, v := range samples {
			if got := c.Push(v); got != whole[i] {
				t.Fatalf("Push(%d), at %d: %v; want %v", v, i, got, whole[i])
			}
			for range i % 3 {
				baseIs(t, c, base)
			}
		}
	}
}

// P15.1: Zero is of waves that are 0 all over, and of no other one.
func TestZero(t *testing.T) {
	if !chain.Zero(api.Wave{}) {
		t.Error("of a Wave of 0: false")
	}
	for _, n := range []int64{1, -1, 2, -2, 255, 256, -256, 1 << 16, 67108864, 62914560, 1 << 31, -1 << 31, 1 << 32, -1 << 32, math.MaxInt64, math.MinInt64} {
		for _, w := range []api.Wave{
			{H: n}, {D: n}, {E: n}, {W: n},
			{H: n, D: -n}, {D: n, E: -n}, {E: n, W: -n}, {H: n, W: -n}, {H: n, E: -n}, {D: n, W: -n},
			{H: n, D: n}, {H: n, D: n, E: n}, {H: n, D: n, E: n, W: n}, {D: n, E: n, W: n}, {H: n, D: -n, E: n, W: -n},
		} {
			if chain.Zero(w) {
				t.Errorf("of %v: true", w)
			}
		}
	}
}

// P15.1: two samples at, just within and just beyond Low and High, and at the ends of the range of 32 bits, the first one, or the one behind it: by its H it is seen what they count as; written out.
func TestNearest(t *testing.T) {
	for _, v := range []struct {
		first, second int32
		h             int64
	}{
		// 31 behind the base is nothing, 32 is.
		{foot + 1, foot + 32, 0}, {foot + 1, foot + 33, -1},
		{foot, foot + 31, 0}, {foot, foot + 32, -1},
		{foot - 1, foot + 31, 0}, {foot - 1, foot + 32, -1},
		{foot - 2, foot + 31, 0}, {-65536, foot + 31, 0}, {least, foot + 31, 0}, {least, foot + 32, -1},
		// 992 below the base is nothing, 993 is.
		{top - 1, top - 993, 0}, {top - 1, top - 994, 1},
		{top, top - 992, 0}, {top, top - 993, 1},
		{top + 1, top - 992, 0}, {top + 1, top - 993, 1},
		{top + 2, top - 992, 0}, {65536, top - 992, 0}, {most, top - 992, 0}, {most, top - 993, 1},
		// 32799 behind the base is 32 below, 32800 is 33.
		{top - 32799, top, -32}, {top - 32799, top + 1, -32}, {top - 32799, 65536, -32}, {top - 32799, most, -32}, {top - 32799, top - 1, -32},
		{top - 32800, top - 1, -32}, {top - 32800, top, -33}, {top - 32800, top + 1, -33}, {top - 32800, most, -33},
		// 33760 below the base is 32, 33761 is 33.
		{foot + 33760, foot, 32}, {foot + 33760, foot - 1, 32}, {foot + 33760, -65536, 32}, {foot + 33760, least, 32}, {foot + 33760, foot + 1, 32},
		{foot + 33761, foot + 1, 32}, {foot + 33761, foot, 33}, {foot + 33761, foot - 1, 33}, {foot + 33761, least, 33},
	} {
		c := made(t, 0)
		got := c.Block(v.first, v.second)
		if len(got) != 2 || got[0] != (api.Wave{}) || got[1].H != v.h {
			t.Errorf("%d and %d: %v; want an H of %d", v.first, v.second, got, v.h)
		}
	}
}

// P15.1: samples beyond Low and High come to the same as those at them, wherever they stand.
func TestCountsAs(t *testing.T) {
	var x noise
	for _, mains := range known() {
		for kind := range kinds {
			for range 10 {
				samples := x.row(kind, 400)
				within := slices.Clone(samples)
				for i, v := range within {
					within[i] = int32(nearest(int64(v), foot, top))
				}
				answers(t, made(t, mains), samples, made(t, mains).Block(within...)...)
			}
		}
	}
}

// P15.1: each edge ahead of, and behind, each other one.
func TestEdges(t *testing.T) {
	for _, mains := range known() {
		for _, a := range edges() {
			for _, b := range edges() {
				h := heldOf(t, mains)
				h.block(t, a, b, 0, a, a, b, b, 1, -1, 0, b, a)
				h.block(t, times(b, 12)...)
			}
		}
	}
}

// P15.1: the first sample at Low and those behind it at High, and the other way round: written out at first, and where it goes highest and lowest.
func TestFromEndToEnd(t *testing.T) {
	for _, v := range []struct {
		mains       int
		first, then int32
		want        [][4]int64
		high, low   int64
		most        int64
	}{
		{0, foot, top, [][4]int64{{-64, -16, 256, 8}, {-256, -72, 5184, 170}, {-640, -192, 36864, 1322}}, 23295, -25601, 15506306},
		{50, foot, top, [][4]int64{{-16, -4, 16, 0}, {-80, -22, 484, 15}, {-240, -70, 4900, 168}}, 22143, -24449, 14867056},
		{60, foot, top, [][4]int64{{-25, -7, 49, 1}, {-113, -32, 1024, 33}, {-330, -97, 9409, 327}}, 22513, -24818, 15303206},
		{0, top, foot, [][4]int64{{64, 16, 256, 8}, {256, 72, 5184, 170}, {640, 192, 36864, 1322}}, 25599, -23296, 15506173},
		{50, top, foot, [][4]int64{{16, 4, 16, 0}, {80, 22, 484, 15}, {240, 70, 4900, 168}}, 24447, -22144, 14866717},
		{60, top, foot, [][4]int64{{24, 6, 36, 1}, {112, 31, 961, 31}, {329, 96, 9216, 319}}, 24816, -22514, 15300607},
	} {
		samples := append([]int32{v.first}, times(v.then, 120)...)
		h := heldOf(t, v.mains)
		h.block(t, samples...)
		got := made(t, v.mains).Block(samples...)
		if want := waves(append([][4]int64{{}}, v.want...)...); !slices.Equal(got[:4], want) {
			t.Errorf("mains %d, %d, then %d: %v; want %v", v.mains, v.first, v.then, got[:4], want)
		}
		var high, low, highest int64
		for _, w := range got {
			high, low, highest = max(high, w.H), min(low, w.H), max(highest, w.W)
		}
		if high != v.high || low != v.low || highest != v.most {
			t.Errorf("mains %d, %d, then %d: H from %d to %d, W up to %d", v.mains, v.first, v.then, low, high, highest)
		}
		// Well beyond the ends it is the same.
		answers(t, made(t, v.mains), append([]int32{2 * v.first}, times(2*v.then, 120)...), got...)
	}
}

// P15.1: a lone sample above its base, with no hum to take out: what is left of it where each filter begins, and ends, to tell of it; written out.
func TestLone(t *testing.T) {
	// 3200 comes to 100, 200, .. 600, .. 100 behind the low pass, 3600 in all.
	samples := slices.Concat(times(-77, 5), []int32{3123}, times(-77, 90))
	got := made(t, 0).Block(samples...)
	for _, v := range []struct {
		at int
		h  int64
	}{
		{4, 0}, {5, -4}, {6, -10}, {7, -19}, {10, -66}, {14, -110}, {15, -113}, {20, -113},
		{21, -13}, {22, 87}, {26, 487}, {27, 387}, {31, -13}, {32, -113}, {36, -113}, {37, -110}, {38, -104}, {42, -47}, {46, -4}, {47, 0}, {60, 0},
	} {
		if got[v.at].H != v.h {
			t.Errorf("H at %d: %v; want %d", v.at, got[v.at], v.h)
		}
	}
	for i, w := range got {
		if w.E != w.D*w.D {
			t.Errorf("E at %d: %v", i, w)
		}
	}
	// The slope looks back to an H of four steps ago. Of its last squares, 36, 9 and 1, the window comes to 1 as long as all three are in it.
	for i, v := range []struct{ d, e, w int64 }{{6, 36, 1}, {3, 9, 0}, {1, 1, 0}, {0, 0, 0}} {
		if got[48+i].D != v.d || got[48+i].E != v.e || got[77+i].W != v.w {
			t.Errorf("D and E at %d, W at %d: %v, %v", 48+i, 77+i, got[48+i], got[77+i])
		}
	}
}

// P15.1: a Block of none, of one, and of many.
func TestBlock(t *testing.T) {
	for _, mains := range known() {
		h := heldOf(t, mains)
		h.block(t)
		h.block(t, []int32{}...)
		h.block(t, 90)
		h.block(t)
		h.block(t, 800, 70, -6, 500, 4, 3)
		h.block(t)
		h.block(t, 1000)
		h.block(t, slices.Repeat([]int32{11, -12, 1300, 90000000, 7}, 300)...)
		h.block(t)
		h.block(t, -1)
	}
}

// P15.1: long rows of each kind, all at once.
func TestRows(t *testing.T) {
	for _, mains := range known() {
		for _, samples := range rows() {
			heldOf(t, mains).block(t, samples...)
		}
	}
}

// P15.1: behind Reset it is as if nothing had come, however much had: what comes first then is another base.
func TestReset(t *testing.T) {
	var x noise
	for _, mains := range known() {
		h := heldOf(t, mains)
		for many := range 120 {
			h.reset(t)
			h.block(t, x.row(2, many)...)
			h.reset(t)
			first := x.sample()
			h.push(t, first)
			h.block(t, slices.Concat(times(first, 14), []int32{-500, 600}, times(first+7, 16))...)
		}
		for range 100 {
			h.reset(t)
			h.block(t, x.row(mixed, x.upTo(100))...)
			if x.upTo(3) == 0 {
				h.reset(t)
			}
			h.push(t, x.whole())
		}
	}
}

// P15.1: behind Reset nothing is left of what came ahead, in any of the filters: of samples that are as the first one all is 0.
func TestResetIsWhole(t *testing.T) {
	var x noise
	for _, mains := range known() {
		c := made(t, mains)
		for many := range 90 {
			c.Block(x.row(3, many)...)
			c.Reset()
			first := x.sample()
			silent(t, c, times(first, 5)...)
			baseIs(t, c, first)
		}
	}
}
