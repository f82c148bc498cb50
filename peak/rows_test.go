package peak_test

import (
	"slices"
	"testing"

	"systole/api"
	"systole/peak"
)

// P16.1: At and Seen of many peaks in a row, and behind Reset, where steps are numbered from 0 on again; written out.
func TestSteps(t *testing.T) {
	w := []int64{0, 100, 40, 30, 125, 200, 100, 99, 50, 263, 131, 0, 65, 32}
	how := "_/__//" + "/__/_" + "_/_"
	want := []api.Peak{at(1, 2, 100, 0), at(5, 7, 200, 0), at(9, 10, 263, 0), at(12, 13, 65, 0)}
	anew(t, w, nil, how, want...)
	f := made(t)
	goes(t, f, 0, w, nil, how, want...)
	// Behind 14 steps the valley is 32.
	goes(t, f, 14, w, nil, how, at(15, 16, 100, 0), at(19, 21, 200, 0), at(23, 24, 263, 0), at(26, 27, 65, 0))
	for range 3 {
		f.Reset()
		stands(t, f, false, 0)
		goes(t, f, 0, w, nil, how, want...)
	}
}

// P16.2: Reset while it is falling: neither the valley nor the steps are kept; written out.
func TestResetWhileFalling(t *testing.T) {
	for _, ahead := range [][]int64{nil, {0}, {9, 3}, {500, 1064}, {0, 100, 40}, {0, 100, 40, 30, 20}, {0, most, least}} {
		f := made(t)
		for _, w := range ahead {
			f.Push(w, 5000)
		}
		stands(t, f, false, len(ahead))
		f.Reset()
		stands(t, f, false, 0)
		goes(t, f, 0, []int64{500, 1064, 1065, 532}, []int64{90, 80, 7, -6}, "__/_", at(2, 3, 1065, 7))
		f.Reset()
		goes(t, f, 0, []int64{bound, bound, most, 31457247, bound, 0}, nil, "____/_", at(4, 5, bound, 0))
	}
}

// P16.2: Reset while it is rising: neither the top nor how steep it was is kept; written out.
func TestResetWhileRising(t *testing.T) {
	for _, ahead := range [][]int64{{0, 65}, {0, 3000}, {0, most}, {500, 1065, 2000, 1000}, {0, 100, 40, 30, 200, 100}} {
		f := made(t)
		for _, w := range ahead {
			f.Push(w, 5000)
		}
		stands(t, f, true, len(ahead))
		f.Reset()
		stands(t, f, false, 0)
		// None of these is a peak of the rise that was left.
		goes(t, f, 0, []int64{32, 0, 64, 65, 32}, []int64{90, 80, 7, 3, -6}, "___/_", at(3, 4, 65, 6))
		f.Push(1000, 0)
		f.Reset()
		goes(t, f, 0, []int64{2000, 4064, 4065, 2032}, nil, "__/_", at(2, 3, 4065, 0))
	}
}

// P16.2: Reset behind each number of steps of rows of all kinds: what comes behind it is as if nothing had.
func TestReset(t *testing.T) {
	var x noise
	h := heldOf(t)
	rising, falling := 0, 0
	for kind := range kinds {
		for many := range 80 {
			h.reset(t)
			w, d := x.rows(kind, many)
			h.row(t, w, d)
			if h.Rising() {
				rising++
			} else {
				falling++
			}
			h.reset(t)
			if many%5 == 0 {
				h.reset(t)
			}
			w, d = x.rows(mixed, 20)
			h.row(t, w, d)
		}
	}
	if rising < 100 || falling < 100 {
		t.Errorf("Reset %d times while rising, %d times while falling", rising, falling)
	}
}

// P16.2: All of two lists of the same length, and of two lengths either way: as many steps as the shorter one has; written out.
func TestAll(t *testing.T) {
	w := []int64{0, 100, 300, 200, 149, 100, 500, 249}
	d := []int64{70, 3, -5, 4, 9, 80, 1, 0}
	first, second := at(2, 4, 300, 9), at(6, 7, 500, 1)
	for many := range len(w) + 1 {
		var want []api.Peak
		if many > 4 {
			want = append(want, first)
		}
		if many > 7 {
			want = append(want, second)
		}
		same(t, peak.All(w[:many], d[:many]), want)
		same(t, peak.All(w[:many], d), want)
		same(t, peak.All(w, d[:many]), want)
	}
}

// P16.2: All of no list, and of empty ones, beside one that is not: no peak.
func TestAllOfNone(t *testing.T) {
	l := []int64{0, 100, 0, 100, 0}
	for _, none := range [][]int64{nil, {}} {
		for _, other := range [][]int64{nil, {}, l, l[:1]} {
			same(t, peak.All(none, other), nil)
			same(t, peak.All(other, none), nil)
		}
	}
	same(t, peak.All(l, l[:1]), nil)
	same(t, peak.All(l, l), []api.Peak{at(1, 2, 100, 100), at(3, 4, 100, 100)})
}

// P16.2: All of each two lengths of rows of each kind is what Push answers, in order; nothing is kept from call to call.
func TestAllOfEachLength(t *testing.T) {
	var x noise
	for kind := range kinds {
		w, d := x.rows(kind, 40)
		for i := range len(w) + 1 {
			for j := range len(d) + 1 {
				many := min(i, j)
				same(t, peak.All(w[:i], d[:j]), said(w[:many], d[:many]))
			}
		}
	}
	for kind := range kinds {
		w, d := x.rows(kind, 20000)
		want := said(w, d)
		if len(want) < 100 {
			t.Errorf("rows of kind %d: only %d peaks", kind, len(want))
		}
		for range 2 {
			same(t, peak.All(w, d), want)
			same(t, peak.All(w, append(slices.Clone(d), 1, 2, 3)), want)
		}
	}
}

// P16.1: long rows of each kind, step by step.
func TestRows(t *testing.T) {
	var x noise
	for kind := range kinds {
		for range 20 {
			h := heldOf(t)
			w, d := x.rows(kind, 2500)
			h.row(t, w, d)
		}
	}
}

// P16.1: to be asked for Rising and Steps does nothing: with it and without, all peaks are the same.
func TestAskingDoesNothing(t *testing.T) {
	var x noise
	for kind := range kinds {
		w, d := x.rows(kind, 2000)
		f := made(t)
		var got []api.Peak
		for i := range w {
			for range i % 3 {
				f.Rising()
				f.Steps()
			}
			if p, ok := f.Push(w[i], d[i]); ok {
				got = append(got, p)
			}
		}
		same(t, got, said(w, d))
	}
}

// After very many steps the answers are still those of the chapter's words.
func TestVeryMany(t *testing.T) {
	var x noise
	h := heldOf(t)
	for i := range 400 {
		w, d := x.rows(i%kinds, 2000)
		h.row(t, w, d)
	}
}

// After very many steps of one rise, and of one fall, too; written out.
func TestVeryLong(t *testing.T) {
	const many = 3000000
	f := made(t)
	push := func(w, d int64, want api.Peak, rising bool) {
		t.Helper()
		p, ok := f.Push(w, d)
		if p != want || ok != (want != api.Peak{}) || f.Rising() != rising {
			t.Fatalf("behind %d steps: %v, %v, rising %v; want %v", f.Steps()-1, p, ok, f.Rising(), want)
		}
	}
	none := api.Peak{}
	push(10, 0, none, false)
	for range many {
		push(84, 500, none, false)
	}
	push(85, -30, none, true)
	for range many {
		push(43, 20, none, true)
	}
	push(42, 0, at(many+1, 2*many+2, 85, 30), false)
	stands(t, f, false, 2*many+3)
	for range many {
		push(148, 500, none, false)
	}
	push(149, 3, none, true)
	push(0, 2, at(3*many+3, 3*many+4, 149, 3), false)
	stands(t, f, false, 3*many+5)
	f.Reset()
	stands(t, f, false, 0)
	push(10, 0, none, false)
	push(85, 9, none, true)
	push(42, 0, at(1, 2, 85, 9), false)
}

// Two finders go each its own way.
func TestTwo(t *testing.T) {
	var x noise
	one, other := heldOf(t), heldOf(t)
	for i := range 2000 {
		w, d := x.rows(i%kinds, 1+x.upTo(7))
		one.row(t, w, d)
		w, d = x.rows(mixed, 1+x.upTo(7))
		other.row(t, w, d)
		same(t, peak.All(w, d), said(w, d))
		if x.upTo(20) == 0 {
			other.reset(t)
		}
		stands(t, one.Finder, one.came.rising, len(one.came.w))
		stands(t, other.Finder, other.came.rising, len(other.came.w))
	}
}

// R4: what is handed in is as it was, and nothing behind its length is read or written.
func TestArgumentsStay(t *testing.T) {
	w := []int64{-5, most, 300, 200, 149, 400, 0}
	d := []int64{least, most, -5, 4, 9, -80, 1}
	first := at(1, 2, bound, steep)
	for range 2 {
		same(t, peak.All(w[:2], d[:2]), nil)
		same(t, peak.All(w[:3], d[:6]), []api.Peak{first})
		same(t, peak.All(w[:7], d[:3]), []api.Peak{first})
		same(t, peak.All(w[:6], d[:6]), []api.Peak{first})
		same(t, peak.All(w, d), []api.Peak{first, at(5, 6, 400, 80)})
		same(t, peak.All(w[:0], d[:0]), nil)
	}
	if want := []int64{-5, most, 300, 200, 149, 400, 0}; !slices.Equal(w, want) {
		t.Errorf("the sums are %v", w)
	}
	if want := []int64{least, most, -5, 4, 9, -80, 1}; !slices.Equal(d, want) {
		t.Errorf("the slopes are %v", d)
	}
}

// R4: one list for both is as good as two.
func TestOneListForBoth(t *testing.T) {
	var x noise
	for kind := range kinds {
		l, _ := x.rows(kind, 500)
		kept := slices.Clone(l)
		same(t, peak.All(l, l), said(kept, kept))
		if !slices.Equal(l, kept) {
			t.Fatalf("the list is %v; was %v", l, kept)
		}
	}
}

// R4: what is answered is new memory: whoever gets it may change it, and put more behind it; and what was handed in may be changed.
func TestAnswersAreNew(t *testing.T) {
	w := []int64{0, 100, 40, 300, 140, 500, 200}
	d := []int64{1, 2, 3, 4, 5, 6, 7}
	want := []api.Peak{at(1, 2, 100, 3), at(3, 4, 300, 5), at(5, 6, 500, 7)}
	first := peak.All(w, d)
	second := peak.All(w, d)
	same(t, first, want)
	for i := range second {
		second[i] = at(9, 9, 9, 9)
	}
	second = append(second, at(8, 8, 8, 8))
	same(t, first, want)
	first = first[:cap(first)]
	for i := range first {
		first[i] = at(7, 7, 7, 7)
	}
	same(t, second, []api.Peak{at(9, 9, 9, 9), at(9, 9, 9, 9), at(9, 9, 9, 9), at(8, 8, 8, 8)})
	third := peak.All(w, d)
	for i := range w {
		w[i], d[i] = 77, 77
	}
	same(t, third, want)
}
