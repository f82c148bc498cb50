package chain_test

import (
	"slices"
	"testing"

	"systole/api"
	"systole/chain"
)

// within looks for what is beyond its bound, and for what a number of 32 bits is too small for.
func within(t *testing.T, l []api.Wave) {
	t.Helper()
	for i, w := range l {
		if max(w.H, -w.H) > 142847 || max(w.D, -w.D) > 107136 || w.E < 0 || w.E > 67108864 || w.W < 0 || w.W > 62914560 {
			t.Fatalf("at %d: %v is beyond a bound", i, w)
		}
		for _, n := range []int64{w.H, w.D, w.E, w.W} {
			if int64(int32(n)) != n {
				t.Fatalf("at %d: %v does not fit 32 bits", i, w)
			}
		}
	}
}

// P15.2: nothing is beyond its bound, of samples of all kinds.
func TestBounds(t *testing.T) {
	var x noise
	for _, mains := range known() {
		for kind := range kinds {
			c := made(t, mains)
			within(t, c.Block(x.row(kind, 30000)...))
		}
		for _, a := range edges() {
			for _, b := range edges() {
				c := made(t, mains)
				within(t, c.Block(slices.Concat([]int32{a}, times(b, 40), times(a, 16), []int32{b, b, a}, times(b, 20))...))
			}
		}
	}
}

// P15.2: nor of those that go from Low to High and back, after as many samples as one likes; squares and their sums come high by it.
func TestBoundsFromEndToEnd(t *testing.T) {
	var x noise
	ends := []int32{foot, top, least, most}
	for _, mains := range known() {
		var highest api.Wave
		for stays := 1; stays <= 60; stays++ {
			for _, first := range ends {
				c := made(t, mains)
				samples := []int32{first}
				for len(samples) < 300 {
					samples = append(samples, times(foot, stays)...)
					samples = append(samples, times(top, stays)...)
				}
				got := c.Block(samples...)
				within(t, got)
				for _, w := range got {
					highest.H, highest.D = max(highest.H, w.H, -w.H), max(highest.D, w.D, -w.D)
					highest.E, highest.W = max(highest.E, w.E), max(highest.W, w.W)
				}
			}
		}
		if highest.H < 40000 || highest.D < 14000 || highest.E != 67108864 || highest.W < 30000000 {
			t.Errorf("mains %d: at most %v", mains, highest)
		}
		for range 300 {
			c := made(t, mains)
			var samples []int32
			few := 1 + x.upTo(40)
			for len(samples) < 300 {
				samples = append(samples, times(ends[x.upTo(4)], 1+x.upTo(few))...)
			}
			within(t, c.Block(samples...))
		}
	}
}

// P15.3: the same samples in pieces of all lengths, none among them, come to the same as in one Block.
func TestPieces(t *testing.T) {
	var x noise
	for _, mains := range known() {
		for _, samples := range rows() {
			whole := made(t, mains).Block(samples...)
			for _, far := range []int{1, 2, 4, 16, 77, 78, 300} {
				c := made(t, mains)
				for at := 0; at < len(samples); {
					to := min(len(samples), at+x.upTo(far+1))
					answers(t, c, samples[at:to], whole[at:to]...)
					at = to
				}
			}
		}
	}
}

// P15.3: sample by sample, by Push, by Block of one, and by both in turn, it is the same.
func TestSampleBySample(t *testing.T) {
	for _, mains := range known() {
		for _, samples := range rows() {
			whole := made(t, mains).Block(samples...)
			pushed, blocks, both := made(t, mains), made(t, mains), made(t, mains)
			for i, v := range samples {
				if got := pushed.Push(v); got != whole[i] {
					t.Fatalf("Push(%d), at %d: %v; in one Block %v", v, i, got, whole[i])
				}
				answers(t, blocks, samples[i:i+1], whole[i])
				if i%2 == 0 {
					answers(t, both, samples[i:i+1], whole[i])
				} else if got := both.Push(v); got != whole[i] {
					t.Fatalf("Push(%d) behind Block, at %d: %v; in one Block %v", v, i, got, whole[i])
				}
			}
		}
	}
}

// P15.3: each way to cut a short row.
func TestEachCut(t *testing.T) {
	samples := []int32{400, -3000, most, 0, least, 700, 7, 1000, top, 33, 0}
	for _, mains := range known() {
		for cuts := range 1 << (len(samples) - 1) {
			h := heldOf(t, mains)
			from := 0
			for i := range samples {
				if i == len(samples)-1 || cuts>>i&1 == 1 {
					h.block(t, samples[from:i+1]...)
					h.block(t)
					from = i + 1
				}
			}
		}
	}
}

// P15.4: of samples that are all the same all is 0, be they within Low and High, at them, or beyond.
func TestEven(t *testing.T) {
	for _, mains := range known() {
		for _, v := range edges() {
			silent(t, made(t, mains), times(v, 200)...)
		}
		for v := foot; v <= top; v += 97 {
			silent(t, made(t, mains), times(int32(v), 12)...)
		}
		// These are unlike, but count the same.
		silent(t, made(t, mains), slices.Repeat([]int32{top, top + 1, most, 65536}, 50)...)
		silent(t, made(t, mains), slices.Repeat([]int32{foot - 1, foot, least, -65536 + 77}, 50)...)
	}
}

// P15.4: behind so many samples that are as the base all is 0 again, and stays so, whatever came ahead, and however much.
func TestForgotten(t *testing.T) {
	if api.Memory != 78 {
		t.Fatalf("Memory: %d", api.Memory)
	}
	var x noise
	for _, mains := range known() {
		for kind := range kinds {
			for many := range 90 {
				c := made(t, mains)
				samples := x.row(kind, 1+many)
				c.Block(samples...)
				base, _ := c.Base()
				c.Block(times(base, 77)...)
				silent(t, c, times(base, 30)...)
			}
		}
	}
}

// P15.4: of bases at the bounds, and beyond, too: what counts as the base is as it.
func TestForgottenAtTheEnds(t *testing.T) {
	var x noise
	for _, mains := range known() {
		for _, ends := range [][]int32{{top, top + 1, most, 65536}, {foot, foot - 1, least, -65536}} {
			for _, first := range ends {
				for range 20 {
					c := made(t, mains)
					c.Push(first)
					c.Block(x.row(mixed, 100)...)
					for range 77 {
						c.Push(ends[x.upTo(4)])
					}
					silent(t, c, ends...)
				}
			}
		}
	}
}

// P15.4: it is not 0 at once: what came ahead is told of for nearly as long, the longer the more samples the notch looks at.
func TestNotForgottenYet(t *testing.T) {
	for _, v := range []struct{ mains, till int }{{0, 74}, {50, 76}, {60, 76}} {
		c := made(t, v.mains)
		c.Block(append([]int32{foot}, times(top, 100)...)...)
		got := c.Block(times(foot, 100)...)
		for i, w := range got {
			if chain.Zero(w) != (i >= v.till) {
				t.Errorf("mains %d, behind %d samples as the base: %v", v.mains, i+1, w)
			}
		}
	}
}

// lifted is a row of samples that are all higher by the same.
func lifted(samples []int32, by int32) []int32 {
	l := slices.Clone(samples)
	for i := range l {
		l[i] += by
	}
	return l
}

// P15.5: samples that are all higher, or lower, by the same come to the same, up to Low and High themselves.
func TestLifted(t *testing.T) {
	var x noise
	for _, mains := range known() {
		for range 60 {
			// From 0 to the height, both among them, so that just so much room is left.
			height := int32(x.upTo(65536))
			samples := []int32{0, height}
			for range 150 {
				samples = append(samples, int32(x.upTo(int(height)+1)))
			}
			at := x.upTo(len(samples))
			samples[0], samples[at] = samples[at], samples[0]
			want := made(t, mains).Block(lifted(samples, foot)...)
			room := 65535 - int(height)
			for _, by := range []int{0, room, room / 2, x.upTo(room + 1), x.upTo(room + 1)} {
				c := made(t, mains)
				answers(t, c, lifted(samples, foot+int32(by)), want...)
				baseIs(t, c, samples[0]+foot+int32(by))
			}
		}
	}
}

// P15.5: the step of a base, written out, at each height that there is room for, and of the greatest height at the one.
func TestLiftedStep(t *testing.T) {
	for _, mains := range known() {
		want := append([]api.Wave{{}}, waves(steps(mains)...)...)
		for _, base := range []int32{foot, foot + 1, -500, -400, -399, -1, 0, 1, 500, 20000, top - 401, top - 400} {
			samples := append([]int32{base}, times(base+400, len(want)-1)...)
			answers(t, made(t, mains), samples, want...)
		}
		// There is no room for these: they count as higher by less.
		got := made(t, mains).Block(append([]int32{top - 300}, times(top+100, len(want)-1)...)...)
		if slices.Equal(got, want) {
			t.Errorf("mains %d: beyond High it is the same", mains)
		}
	}
}

// After very many samples of all kinds the answers are still those of the chapters' words.
func TestVeryMany(t *testing.T) {
	var x noise
	for _, mains := range known() {
		h := heldOf(t, mains)
		for i := range 300 {
			h.block(t, x.row(i%kinds, 500)...)
		}
	}
}

// Two chains go each its own way.
func TestTwo(t *testing.T) {
	var x noise
	for _, mains := range known() {
		one, other := heldOf(t, mains), heldOf(t, 50)
		for range 300 {
			one.block(t, x.row(mixed, x.upTo(9))...)
			other.block(t, x.row(mixed, x.upTo(9))...)
			one.push(t, x.sample())
			other.push(t, x.sample())
			one.based(t)
			if x.upTo(20) == 0 {
				other.reset(t)
				one.based(t)
			}
		}
	}
}

// R4: what is handed in is as it was, and nothing behind its length is read or written.
func TestArgumentsStay(t *testing.T) {
	room := []int32{90000000, -80000, 500, 40, 3, 2, 1}
	h := heldOf(t, 50)
	h.block(t, room[:4]...)
	h.block(t, room[:0]...)
	h.block(t, room[3:6]...)
	if want := []int32{90000000, -80000, 500, 40, 3, 2, 1}; !slices.Equal(room, want) {
		t.Fatalf("the argument is %v", room)
	}
}

// R4: nothing that is handed in is kept: whoever handed it in may change it.
func TestArgumentsAreNotKept(t *testing.T) {
	for _, mains := range known() {
		samples := []int32{9000, -8000, 7000, 6000}
		h := heldOf(t, mains)
		h.block(t, samples...)
		for i := range samples {
			samples[i] = 31111
		}
		h.based(t)
		h.block(t, times(0, 80)...)
	}
}

// R4: what is answered is new memory: whoever gets it may change it, and put more behind it.
func TestAnswersAreNew(t *testing.T) {
	samples := []int32{9000, -8000, 7000, 6000, 500, 600}
	h := heldOf(t, 60)
	first := h.Block(samples[:4]...)
	kept := slices.Clone(first)
	second := h.Block(samples[4:]...)
	h.said.of(samples)
	for i := range second {
		second[i] = wave(1, 2, 3, 4)
	}
	second = append(second, wave(5, 6, 7, 8))
	if !slices.Equal(first, kept) {
		t.Fatalf("the first answer is %v; was %v", first, kept)
	}
	first = first[:cap(first)]
	for i := range first {
		first[i] = wave(9, 9, 9, 9)
	}
	if want := []int32{9000, -8000, 7000, 6000, 500, 600}; !slices.Equal(samples, want) {
		t.Fatalf("the argument is %v", samples)
	}
	if want := waves([4]int64{1, 2, 3, 4}, [4]int64{1, 2, 3, 4}, [4]int64{5, 6, 7, 8}); !slices.Equal(second, want) {
		t.Fatalf("the second answer is %v", second)
	}
	h.based(t)
	h.block(t, append([]int32{0, 1, 2, 3, 4}, times(0, 80)...)...)
}
