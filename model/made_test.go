package model_test

import (
	"testing"

	"systole/api"
	"systole/chain"
	"systole/model"
	"systole/tally"
)

// The chapter's example: of a thousand samples 5 the asystole is raised at 800, and sounds there; with any mains.
func TestExample(t *testing.T) {
	e := shown(0, even(5, 1000)...)
	want := outs{{Kind: api.OutRaise, At: 800, Alarm: api.AlAsys}, {Kind: api.OutSound, At: 800, N: 1}}
	for _, mains := range []int{0, 50, 60} {
		l := asys(800)
		l.Mains = mains
		alike(t, model.Run(l, nil, e...), want)
		alike(t, model.Run(l, nil, e[:801]...), want)
		alike(t, model.Run(l, nil, e[:800]...), nil)
		var even marks
		for at := range int64(1000) {
			even = append(even, api.Mark{Kind: api.MkSample, At: at})
		}
		alike(t, model.Marks(mains, e...), even)
		says(t, judge(t, l), want, even...)
	}
}

// P26.1, P26.2: the kinds' names, and the errors', written out.
func TestKinds(t *testing.T) {
	if kinds := [...]int{api.ItGap, api.ItOff, api.ItOn, api.ItSample, api.ItDark}; kinds != [...]int{1, 2, 3, 4, 5} {
		t.Errorf("kinds of items: %v", kinds)
	}
	if kinds := [...]int{api.MkGap, api.MkOff, api.MkOn, api.MkSample, api.MkDark, api.MkBeat}; kinds != [...]int{1, 2, 3, 4, 5, 6} {
		t.Errorf("kinds of marks: %v", kinds)
	}
	if kinds := [...]int{api.OutBeat, api.OutRaise, api.OutClear, api.OutLatch, api.OutAck, api.OutEscape, api.OutSound, api.OutSilence}; kinds != [...]int{1, 2, 3, 4, 5, 6, 7, 8} {
		t.Errorf("kinds of outs: %v", kinds)
	}
	if api.ErrArg != 1 || api.ErrLimit != 200 {
		t.Errorf("ErrArg %d, ErrLimit %d", api.ErrArg, api.ErrLimit)
	}
}

// P26.1, P26.3: with each of the mains that there are there is a detector, to which nothing came; with others there is none, but ErrArg, and no marks.
func TestNewDetect(t *testing.T) {
	row := append(shown(0, even(5, 30)...), missing(30))
	for _, n := range append(edges(), 10, 49, 50, 51, 59, 60, 61, 1<<32+50, 1<<32+60, -50, -60, 5060) {
		mains := int(n)
		_, want := chain.New(mains)
		d, e := model.NewDetect(mains)
		if e != want || (e == api.OK) != (mains == 0 || mains == 50 || mains == 60) {
			t.Fatalf("NewDetect(%d): %d; chain.New's error is %d", mains, e, want)
		}
		if e == api.OK {
			tells(t, d, nil)
			tells(t, d, marks{{Kind: 4, At: 7}}, value(7, 9))
			alike(t, model.Marks(mains, row[0]), marks{{Kind: 4}})
			continue
		}
		if d != nil || e != api.ErrArg {
			t.Fatalf("NewDetect(%d): %v, %d", mains, d, e)
		}
		alike(t, model.Marks(mains, row...), nil)
		alike(t, model.Marks(mains), nil)
	}
}

// field is a field of limits, and from where to where it may be, while all others are the usual ones.
type field struct {
	set      func(l *api.Limits, n int64)
	low, top int64
}

// fields are all fields but Mains, with their ends written out.
func fields() []field {
	return []field{
		{func(l *api.Limits, n int64) { l.Asys = n }, 200, 6000},
		{func(l *api.Limits, n int64) { l.Tach = n }, 40, 239},
		{func(l *api.Limits, n int64) { l.TachN = n }, 1, 20},
		{func(l *api.Limits, n int64) { l.Brad = n }, 101, 2000},
		{func(l *api.Limits, n int64) { l.BradN = n }, 1, 20},
		{func(l *api.Limits, n int64) { l.Fib = n }, 1, 142847},
		{func(l *api.Limits, n int64) { l.FibN = n }, 1, 200},
		{func(l *api.Limits, n int64) { l.Escape = n }, 1, 1048576},
	}
}

// mayBe looks that limits may be, or may not: by NewJudge, and by Run of events of which something would be said.
func mayBe(t *testing.T, l api.Limits, want bool) {
	t.Helper()
	j, e := model.NewJudge(l)
	if e != tally.Check(l) || (e == api.OK) != want {
		t.Fatalf("NewJudge(%+v): %d", l, e)
	}
	row := hidden(5, 20)
	due := orders{silence(10, 9)}
	if want {
		is(t, j, ".....")
		says(t, j, raised(1, 7), off(7))
		alike(t, model.Run(l, due, row...), and(silent(10, 9), raised(1, 24), loud(24)))
		return
	}
	if j != nil || e != api.ErrLimit {
		t.Fatalf("NewJudge(%+v): %v, %d", l, j, e)
	}
	alike(t, model.Run(l, due, row...), nil)
	alike(t, model.Run(l, nil), nil)
}

// P26.2, P26.3: ErrLimit, nil, and nothing that Run says, of limits of which one field is beyond its ends; at its ends, and just within, they may be.
func TestNewJudgeEachField(t *testing.T) {
	for _, f := range fields() {
		for _, n := range append(edges(), f.low-1, f.low, f.low+1, f.top-1, f.top, f.top+1, -f.low, 1<<32+f.low, least+f.low) {
			l := usual()
			f.set(&l, n)
			mayBe(t, l, f.low <= n && n <= f.top)
		}
	}
	for _, n := range append(edges(), 49, 50, 51, 59, 60, 61, 1<<32+50) {
		l := usual()
		l.Mains = int(n)
		mayBe(t, l, n == 0 || n == 50 || n == 60)
	}
}

// P26.2: limits with all fields at one end at once, those of nothing, and those of which one is fast and slow at once.
func TestNewJudgeEnds(t *testing.T) {
	mayBe(t, usual(), true)
	mayBe(t, quick(), true)
	mayBe(t, api.Limits{Mains: 0, Asys: 200, Tach: 40, TachN: 1, Brad: 41, BradN: 1, Fib: 1, FibN: 1, Escape: 1}, true)
	mayBe(t, api.Limits{Mains: 60, Asys: 6000, Tach: 400, TachN: 20, Brad: 2000, BradN: 20, Fib: 142847, FibN: 200, Escape: 1048576}, true)
	mayBe(t, api.Limits{}, false)
	mayBe(t, api.Limits{Mains: 50}, false)
	l := usual()
	l.Tach, l.Brad = 240, 240
	mayBe(t, l, false)
	l.Brad = 241
	mayBe(t, l, true)
}

// R6, P26.3: of a detector, and of a judge, that no call made, that is nil: nothing, and false, whatever comes; nobody is asked what is due.
func TestNil(t *testing.T) {
	var d *model.Detect
	var j *model.Judge
	due := func(at int64) []api.Order {
		t.Errorf("it was asked what is due at %d", at)
		return nil
	}
	for range 2 {
		alike(t, d.Push(), nil)
		alike(t, d.Push(items{}...), nil)
		for _, kind := range append(otherKinds(), 1, 2, 3, 4, 5) {
			alike(t, d.Push(item(kind, 5), value(6, 9)), nil)
			alike(t, j.Push(due, mark(kind, 5), sample(9000, 100)), nil)
			if j.On(kind) || j.Stands(kind) {
				t.Fatalf("On(%d), or Stands", kind)
			}
		}
		alike(t, d.Push(numbered(0, pulses(900, 3000, 3, 100)...)...), nil)
		alike(t, j.Push(nil), nil)
		alike(t, j.Push(due, marks{}...), nil)
		alike(t, j.Push(due, append(flutter(0, 900), beat(900, 90), off(901), dark(901))...), nil)
		alike(t, j.Push(nil, sample(0, 0), sample(9000, 0)), nil)
		is(t, j, ".....")
		if d != nil || j != nil {
			t.Fatal("it is not nil any more")
		}
	}
}

// P26.2: limits that are changed by whoever handed them in leave the judge's as they were.
func TestLimitsStay(t *testing.T) {
	l := quick()
	j := judge(t, l)
	l = usual()
	says(t, j, and(beaten(10, 90), beaten(100, 90), raised(4, 100)), beat(10, 90), beat(100, 90))
	says(t, j, and(loud(101), escaped(4, 150)), sample(101, 0), sample(149, 0), sample(150, 0))
	is(t, judge(t, l), ".....")
}
