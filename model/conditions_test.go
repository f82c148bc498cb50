package model_test

import (
	"testing"

	"systole/api"
)

// course is how a kind of condition comes, and goes, with quick limits: marks from sample 1000 on, the last one of which begins it, and a mark, at a sample, that ends it. What is said of the marks themselves, beside the alarm, are outs of kind 1.
type course struct {
	kind  int
	begin marks
	end   func(at int64) api.Mark
}

// at is the sample at which it begins.
func (c course) at() int64 {
	return c.begin[len(c.begin)-1].At
}

// again is how it begins once more, behind a gap, 20000 samples later.
func (c course) again() marks {
	l := marks{gap(c.begin[0].At + 19999)}
	for _, m := range c.begin {
		m.At += 20000
		l = append(l, m)
	}
	return l
}

// sign is the signs of which all but its own are points.
func (c course) sign(sign byte) string {
	row := []byte(".....")
	row[c.kind-1] = sign
	return string(row)
}

// courses are those of all kinds.
func courses() []course {
	plain := func(at int64) api.Mark { return beat(at, 0) }
	return []course{
		{1, marks{off(1000)}, on},
		{2, marks{sample(1000, 0), sample(1200, 0)}, plain},
		{3, flutter(1000, 4), gap},
		{4, marks{beat(1000, 90), beat(1090, 90)}, func(at int64) api.Mark { return beat(at, 91) }},
		{5, marks{beat(1000, 300), beat(1300, 300)}, func(at int64) api.Mark { return beat(at, 299) }},
	}
}

// ticking is a mark at which a Tick is, where the kind's condition stays as it is: dark, which no rhythm looks at.
func ticking(at int64) api.Mark {
	return dark(at)
}

// begun is a judge by limits, with which a course has begun; what was said ahead, and of the beginning, is looked at.
func begun(t *testing.T, l api.Limits, c course) *heldJudge {
	t.Helper()
	h := holdJudge(t, l)
	said := h.push(t, none, none, c.begin...)
	want := raised(c.kind, c.at())
	if last := c.begin[len(c.begin)-1]; last.Kind == 4 {
		// It is a sample: there is a Tick.
		want = and(want, loud(c.at()))
	}
	alike(t, outsOf(said, 2, 3, 4, 5, 6, 7, 8), want)
	is(t, h.j, c.sign('b'))
	return h
}

// ends is what is said of a mark that ends a course, beside the alarm: the beat.
func (c course) ends(at int64) outs {
	if m := c.end(at); m.Kind == 6 {
		return beaten(at, m.Beat.RR)
	}
	return nil
}

// P26.2: each condition is raised as it begins; as it ends it is cleared, or latched, where it is high and nobody has acknowledged it: an asystole and a fibrillation, whenever that is.
func TestRaisedAndEnded(t *testing.T) {
	for _, c := range courses() {
		for _, l := range []api.Limits{quick(), escape(1), escape(greatest)} {
			h := begun(t, l, c)
			at := c.at() + 1
			if c.kind == 2 || c.kind == 3 {
				alike(t, h.push(t, none, none, c.end(at)), and(c.ends(at), latched(c.kind, at)))
				is(t, h.j, c.sign('s'))
				// It goes on sounding till somebody has seen it.
				alike(t, h.push(t, none, none, ticking(at+longest)), nil)
				alike(t, h.push(t, all(ack(5)), all(ack(5)), ticking(at+longest+1)), and(acked(c.kind, at+longest+1), cleared(c.kind, at+longest+1), still(at+longest+1)))
			} else {
				alike(t, h.push(t, none, none, c.end(at)), and(c.ends(at), cleared(c.kind, at)))
				alike(t, h.push(t, none, none, ticking(at+longest)), nil)
			}
			is(t, h.j, ".....")
		}
	}
}

// P26.2: the escape is the limits' own: what is not high escalates at the first sample that is so many behind its raise, and latches from then on.
func TestEscape(t *testing.T) {
	for _, c := range courses() {
		if c.kind == 2 || c.kind == 3 {
			continue
		}
		for _, n := range []int64{1, 2, 50, 2000, greatest - 1, greatest} {
			h := begun(t, escape(n), c)
			at := c.at()
			alike(t, h.push(t, none, none, ticking(at), ticking(at+n-1)), loud(at))
			h.push(t, none, none, c.end(at+n-1))
			is(t, h.j, ".....")

			h = begun(t, escape(n), c)
			alike(t, h.push(t, none, none, ticking(at), ticking(at+n-1), ticking(at+n), ticking(at+n+1)), and(loud(at), escaped(c.kind, at+n)))
			alike(t, h.push(t, none, none, c.end(at+n+1)), and(c.ends(at+n+1), latched(c.kind, at+n+1)))
			is(t, h.j, c.sign('s'))
			alike(t, h.push(t, all(ack(0)), all(ack(0)), ticking(at+n+2)), and(acked(c.kind, at+n+2), cleared(c.kind, at+n+2), still(at+n+2)))
			is(t, h.j, ".....")
		}
	}
}

// P26.2: an asystole and a fibrillation are high at once: they never escalate.
func TestNoEscape(t *testing.T) {
	for _, c := range courses()[1:3] {
		h := begun(t, escape(1), c)
		for n := range int64(10) {
			alike(t, h.push(t, none, none, ticking(c.at()+200*n)), nil)
		}
	}
}

// P26.2: what is acknowledged while its condition is there neither sounds nor escalates, and is cleared as the condition ends; then it is raised again as any other one.
func TestAcknowledged(t *testing.T) {
	for _, c := range courses() {
		for _, n := range []int64{0, 1, 49} {
			h := begun(t, quick(), c)
			at := c.at() + n
			alike(t, outsOf(h.push(t, all(ack(0)), all(ack(0)), ticking(at)), 5, 3), acked(c.kind, at))
			is(t, h.j, c.sign('b'))
			alike(t, h.push(t, none, none, ticking(at+1), ticking(at+90), ticking(at+9000)), nil)
			alike(t, h.push(t, all(ack(0)), all(ack(0)), ticking(at+9000)), nil)
			alike(t, h.push(t, none, none, c.end(at+9001)), and(c.ends(at+9001), cleared(c.kind, at+9001)))
			is(t, h.j, ".....")
			alike(t, outsOf(h.push(t, none, none, c.again()...), 2), raised(c.kind, c.at()+20000))
			is(t, h.j, c.sign('b'))
		}
	}
}

// P26.2: what is latched, and whose condition begins again, stands as it did: nothing is raised.
func TestLatchedAndOnAgain(t *testing.T) {
	for _, c := range courses() {
		h := begun(t, quick(), c)
		at := c.at() + 50
		h.push(t, none, none, ticking(at), c.end(at))
		is(t, h.j, c.sign('s'))
		alike(t, outsOf(h.push(t, none, none, c.again()...), 2, 3, 4, 5, 6, 7), nil)
		is(t, h.j, c.sign('b'))
	}
}

// P26.2: On and Stands of each kind at each mark of a long way through all of them.
func TestOnAndStands(t *testing.T) {
	j := judge(t, quick())
	is(t, j, ".....")
	for i, s := range []struct {
		m     api.Mark
		due   orders
		want  outs
		signs string
	}{
		{sample(0, 0), nil, nil, "....."},
		{sample(199, 0), nil, nil, "....."},
		{sample(200, 0), nil, and(raised(2, 200), loud(200)), ".b..."},
		{sample(201, 100), nil, nil, ".b..."},
		{sample(202, 0), nil, nil, ".b..."},
		{sample(203, 100), orders{silence(0, 30)}, and(raised(3, 203), silent(203, 30), still(203)), ".bb.."},
		{beat(204, 0), nil, and(beaten(204, 0), latched(2, 204)), ".sb.."},
		{sample(205, 100), orders{ack(0)}, and(acked(2, 205), cleared(2, 205), acked(3, 205)), "..b.."},
		{beat(294, 90), nil, beaten(294, 90), "..b.."},
		{beat(384, 90), nil, and(beaten(384, 90), raised(4, 384)), "..bb."},
		{sample(385, 100), nil, loud(385), "..bb."},
		{sample(434, 100), nil, escaped(4, 434), "..bb."},
		{beat(600, 216), nil, and(beaten(600, 216), latched(4, 600)), "..bs."},
		{dark(601), orders{ack(0)}, and(acked(4, 601), cleared(4, 601), still(601)), "..b.."},
		{gap(602), nil, cleared(3, 602), "....."},
		{beat(700, 300), nil, beaten(700, 300), "....."},
		{beat(1000, 300), nil, and(beaten(1000, 300), raised(5, 1000)), "....b"},
		{sample(1000, 0), nil, loud(1000), "....b"},
		{beat(1001, 1), nil, and(beaten(1001, 1), cleared(5, 1001)), "....."},
		{sample(1001, 0), nil, still(1001), "....."},
		{off(1002), nil, raised(1, 1002), "b...."},
		{dark(1002), nil, loud(1002), "b...."},
		{beat(1003, 90), nil, beaten(1003, 90), "b...."},
		{sample(1300, 100), nil, escaped(1, 1300), "b...."},
		{gap(1301), nil, nil, "b...."},
		{on(1302), nil, latched(1, 1302), "s...."},
		{sample(1303, 0), nil, nil, "s...."},
		{sample(1502, 0), orders{ack(0), silence(0, 0), silence(0, 5)}, and(raised(2, 1502), acked(1, 1502), cleared(1, 1502), acked(2, 1502), silent(1502, 5), still(1502)), ".b..."},
		{on(1503), nil, cleared(2, 1503), "....."},
	} {
		orderly(t, j, s.want, s.due, s.m)
		if got := signs(j); got != s.signs {
			t.Fatalf("behind mark %d, %+v: it stands as %s; want %s", i, s.m, got, s.signs)
		}
		is(t, j, s.signs)
	}
}
