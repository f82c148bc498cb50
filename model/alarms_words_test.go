package model_test

import (
	"slices"

	"systole/api"
)

// rhythms is what the chapters' words (20 to 22) say of all marks: which conditions there are.
type rhythms struct {
	limits     api.Limits
	off, begun bool
	since      int64
	h, rr      []int64
	there      [6]bool
}

// anew lets all begin anew, if it begins at a sample.
func (r *rhythms) anew(begins ...int64) {
	r.begun, r.h, r.rr = false, nil, nil
	for _, at := range begins {
		r.begun, r.since = true, nearest(at, 0, maxAt)
	}
}

// crossings is how many of the last values are crossings of the height (21).
func (r *rhythms) crossings() int64 {
	var many int64
	for i := max(1, len(r.h)-400); i < len(r.h); i++ {
		if r.h[i-1] < r.limits.Fib && r.h[i] >= r.limits.Fib {
			many++
		}
	}
	return many
}

// inRow says whether so many of the last distances are all as they should be (20).
func (r *rhythms) inRow(n int64, right func(rr int64) bool) bool {
	if int64(len(r.rr)) < n {
		return false
	}
	return !slices.ContainsFunc(r.rr[int64(len(r.rr))-n:], func(rr int64) bool { return !right(rr) })
}

// next is which conditions begin and end at one more mark.
func (r *rhythms) next(m api.Mark) []api.Cond {
	switch {
	case m.Kind == 1:
		r.anew(m.At)
	case m.Kind == 2:
		r.off = true
		r.anew()
	case m.Kind == 3:
		r.off = false
		r.anew(m.At)
	case m.Kind == 4 && !r.off:
		if !r.begun {
			r.anew(m.At)
		}
		r.h = append(r.h, m.H)
		r.h = r.h[max(0, len(r.h)-401):]
	case m.Kind == 6 && !r.off:
		r.begun, r.since = true, nearest(m.At, 0, maxAt)
		if m.Beat.RR >= 1 {
			r.rr = append(r.rr, m.Beat.RR)
		}
	default:
		return nil
	}
	l := r.limits
	now := [6]bool{
		1: r.off,
		2: r.begun && nearest(m.At, 0, maxAt)-r.since >= l.Asys,
		3: r.crossings() >= l.FibN,
		4: r.inRow(l.TachN, func(rr int64) bool { return rr <= l.Tach }),
		5: r.inRow(l.BradN, func(rr int64) bool { return rr >= l.Brad }),
	}
	var told []api.Cond
	for kind, is := range now {
		if is != r.there[kind] {
			told = append(told, api.Cond{Kind: kind, At: m.At, On: is})
		}
	}
	r.there = now
	return told
}

// alarms is what chapter 23's words say of all conditions and Ticks: of each alarm (0: of none) all that was said, where it looks back for what stands; and which conditions are on.
type alarms struct {
	escape, till int64
	said         [6]outs
	on           [6]bool
}

// last is the last out of some kinds that was said of an alarm.
func (a *alarms) last(alarm int, kinds ...int) api.Out {
	for _, o := range slices.Backward(a.said[alarm]) {
		if slices.Contains(kinds, o.Kind) {
			return o
		}
	}
	return api.Out{}
}

func (a *alarms) stands(kind int) bool { return a.last(kind, 2, 3).Kind == 2 }
func (a *alarms) waits(kind int) bool  { return a.last(kind, 2, 3, 5).Kind == 2 }
func (a *alarms) high(kind int) bool {
	return kind == 2 || kind == 3 || a.last(kind, 2, 3, 6).Kind == 6
}

// say says an out, and is it.
func (a *alarms) say(kind int, at int64, alarm int, n int64) outs {
	o := api.Out{Kind: kind, At: at, Alarm: alarm, N: n}
	a.said[alarm] = append(a.said[alarm], o)
	return outs{o}
}

// cond is what is said of a condition that begins, or ends, and was not so.
func (a *alarms) cond(c api.Cond) outs {
	at := nearest(c.At, 0, maxAt)
	a.on[c.Kind] = c.On
	switch {
	case c.On && a.stands(c.Kind):
		return nil
	case c.On:
		if c.Kind == 2 || c.Kind == 3 {
			a.till = 0
		}
		return a.say(2, at, c.Kind, 0)
	case a.high(c.Kind) && a.waits(c.Kind):
		return a.say(4, at, c.Kind, 0)
	}
	return a.say(3, at, c.Kind, 0)
}

// order is what is said of an order, at a sample as it counts.
func (a *alarms) order(o api.Order, at int64) outs {
	var l outs
	for kind := 1; kind <= 5 && o.Kind == 1; kind++ {
		if a.waits(kind) {
			l = append(l, a.say(5, at, kind, 0)...)
			if !a.on[kind] {
				l = append(l, a.say(3, at, kind, 0)...)
			}
		}
	}
	if o.Kind == 2 && o.N >= 1 && o.N <= longest {
		a.till = at + o.N
		l = append(l, a.say(8, at, 0, o.N)...)
	}
	return l
}

// tick is what is said at a sample with orders.
func (a *alarms) tick(at int64, due orders) outs {
	at = nearest(at, 0, maxAt)
	var l outs
	for _, o := range due {
		l = append(l, a.order(o, at)...)
	}
	sounds := int64(0)
	for kind := 1; kind <= 5; kind++ {
		if a.waits(kind) && a.on[kind] && !a.high(kind) && at-a.last(kind, 2).At >= a.escape {
			l = append(l, a.say(6, at, kind, 0)...)
		}
		if a.waits(kind) && at >= a.till {
			sounds = 1
		}
	}
	if a.last(0, 7).N != sounds {
		l = append(l, a.say(7, at, 0, sounds)...)
	}
	return l
}
