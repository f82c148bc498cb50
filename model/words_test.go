package model_test

import (
	"cmp"
	"slices"
	"testing"

	"systole/api"
	"systole/model"
)

// leads is what chapter 9's words say of all events: the last samples of the run, as many as turn a lead at most, and whether it is off.
type leads struct {
	run []bool
	off bool
}

// next is the items of one more event.
func (x *leads) next(e api.Event) items {
	switch e.Kind {
	case 1:
		x.run = nil
		return items{item(1, e.At)}
	case 2:
	default:
		return nil
	}
	x.run = append(x.run, e.Off)
	x.run = x.run[max(0, len(x.run)-200):]
	many := 0
	for many < len(x.run) && x.run[len(x.run)-1-many] == e.Off {
		many++
	}
	var l items
	switch {
	case !x.off && e.Off && many >= 20:
		x.off = true
		l = append(l, item(2, e.At))
	case x.off && !e.Off && many >= 100:
		x.off = false
		l = append(l, item(3, e.At))
	}
	if x.off {
		return append(l, item(5, e.At))
	}
	return append(l, value(e.At, e.V))
}

// heard is what the chapters' words say of all items: of the marks that they are.
type heard struct {
	mains int
	*waves
	*beats
}

// newHeard is one to which nothing came.
func newHeard(mains int) *heard {
	return &heard{mains, newWaves(mains), &beats{}}
}

// next is the marks of one more item.
func (h *heard) next(it api.Item) marks {
	switch it.Kind {
	case 1, 2, 3:
		*h = *newHeard(h.mains)
		return marks{mark(it.Kind, it.At)}
	case 5:
		return marks{dark(it.At)}
	case 4:
	default:
		return nil
	}
	var l marks
	w := h.waves.next(it.V)
	for _, b := range h.beats.next(it.At, w) {
		l = append(l, api.Mark{Kind: 6, At: it.At, Beat: b})
	}
	return append(l, sample(it.At, w.H))
}

// judged is what the chapters' words say of all marks: of what is said.
type judged struct {
	rhythms
	alarms
}

// newJudged is one to which nothing came.
func newJudged(l api.Limits) *judged {
	return &judged{rhythms{limits: l}, alarms{escape: l.Escape}}
}

// next is what is said of one more mark, with the orders that are due there.
func (j *judged) next(due asked, m api.Mark) outs {
	var l outs
	if m.Kind == 6 {
		l = append(l, beaten(m.Beat.At, m.Beat.RR)...)
	}
	for _, c := range j.rhythms.next(m) {
		l = append(l, j.cond(c)...)
	}
	if m.Kind == 4 || m.Kind == 5 {
		l = append(l, j.tick(m.At, due(m.At))...)
	}
	return l
}

// signs is what the judge is to show.
func (j *judged) signs() string {
	row := []byte(".....")
	for i := range row {
		switch there, stands := j.there[i+1], j.alarms.stands(i+1); {
		case there && stands:
			row[i] = 'b'
		case there:
			row[i] = 'o'
		case stands:
			row[i] = 's'
		}
	}
	return string(row)
}

// may says whether an order may be (24).
func may(o api.Order) bool {
	if o.At < 0 || o.At > maxAt {
		return false
	}
	return o.Kind == 1 && o.N == 0 || o.Kind == 2 && o.N >= 1 && o.N <= longest
}

// dueOf makes a function that says, by the chapter's words, which of these orders are due at a sample: all are looked at each time.
func dueOf(l orders) asked {
	gone := make([]bool, len(l))
	return func(at int64) []api.Order {
		var due orders
		for i, o := range l {
			if !gone[i] && may(o) && at >= o.At {
				gone[i] = true
				due = append(due, o)
			}
		}
		slices.SortStableFunc(due, func(a, b api.Order) int { return cmp.Compare(a.At, b.At) })
		return due
	}
}

// itemsOf, marksOf and saidOf are what the words say of all events, step by step.
func itemsOf(l events) items {
	var x leads
	var said items
	for _, e := range l {
		said = append(said, x.next(e)...)
	}
	return said
}

func marksOf(mains int, l events) marks {
	h := newHeard(mains)
	var said marks
	for _, it := range itemsOf(l) {
		said = append(said, h.next(it)...)
	}
	return said
}

func saidOf(l api.Limits, o orders, e events) outs {
	j, due := newJudged(l), dueOf(o)
	var said outs
	for _, m := range marksOf(l.Mains, e) {
		said = append(said, j.next(due, m)...)
	}
	return said
}

// heldDetect is a detector, and what the words say of all that came.
type heldDetect struct {
	d     *model.Detect
	words *heard
}

// holdDetect is a new detector, held.
func holdDetect(t *testing.T, mains int) *heldDetect {
	t.Helper()
	return &heldDetect{detector(t, mains), newHeard(mains)}
}

// push lets items come in one call, holds the marks against the words, and is the marks.
func (h *heldDetect) push(t *testing.T, l ...api.Item) marks {
	t.Helper()
	var want marks
	for _, it := range l {
		want = append(want, h.words.next(it)...)
	}
	tells(t, h.d, want, l...)
	return want
}

// heldJudge is a judge, and what the words say of all that came.
type heldJudge struct {
	j     *model.Judge
	words *judged
}

// holdJudge is a new judge, held.
func holdJudge(t *testing.T, l api.Limits) *heldJudge {
	t.Helper()
	return &heldJudge{judge(t, l), newJudged(l)}
}

// push lets marks come in one call, where so much is due, holds what is said, and what stands, against the words, and is what is said. Each of both is to have orders of its own.
func (h *heldJudge) push(t *testing.T, due, same asked, l ...api.Mark) outs {
	t.Helper()
	var want outs
	for _, m := range l {
		want = append(want, h.words.next(same, m)...)
	}
	alike(t, h.j.Push(due, l...), want)
	is(t, h.j, h.words.signs())
	return want
}
