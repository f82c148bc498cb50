package alarm_test

import (
	"slices"
	"testing"

	"systole/alarm"
	"systole/api"
)

// words is the chapter's words, over all that came and all that was to be said: it keeps nothing else, and looks back for what stands.
type words struct {
	escape int64
	conds  []api.Cond
	said   outcome
}

// last is the last out of some kinds that was said of the alarm of a kind.
func (w *words) last(kind int, outs ...int) api.Out {
	for _, o := range slices.Backward(w.said) {
		if o.Alarm == kind && slices.Contains(outs, o.Kind) {
			return o
		}
	}
	return api.Out{}
}

// on says whether a kind's condition is on: what came last of it says so.
func (w *words) on(kind int) bool {
	for _, c := range slices.Backward(w.conds) {
		if c.Kind == kind {
			return c.On
		}
	}
	return false
}

func (w *words) stands(kind int) bool { return w.last(kind, 2, 3).Kind == 2 }
func (w *words) acked(kind int) bool  { return w.last(kind, 2, 3, 5).Kind == 5 }
func (w *words) since(kind int) int64 { return w.last(kind, 2).At }
func (w *words) sounds() bool         { return w.last(0, 7).N == 1 }
func (w *words) high(kind int) bool {
	return kind == 2 || kind == 3 || w.last(kind, 2, 3, 6).Kind == 6
}

// till is till where it is silenced: by the last silence, or the last raise of a kind that ends one.
func (w *words) till() int64 {
	for _, o := range slices.Backward(w.said) {
		if o.Kind == 8 {
			return o.At + o.N
		}
		if o.Kind == 2 && (o.Alarm == 2 || o.Alarm == 3) {
			return 0
		}
	}
	return 0
}

// signs is what the alarm is to show.
func (w *words) signs() string {
	row := []byte(".....")
	for i := range row {
		if kind := i + 1; w.stands(kind) {
			row[i] = 's'
			if w.acked(kind) {
				row[i] = 'a'
			}
			if kind != 2 && kind != 3 && w.high(kind) {
				row[i] -= 'a' - 'A'
			}
		}
	}
	return string(row)
}

// cond lets a condition begin, or end.
func (w *words) cond(c api.Cond) {
	if c.Kind < 1 || c.Kind > 5 {
		return
	}
	was, at := w.on(c.Kind), nearest(c.At)
	w.conds = append(w.conds, c)
	switch {
	case c.On == was:
	case c.On && !w.stands(c.Kind):
		w.said = append(w.said, raised(c.Kind, at)...)
	case c.On:
	case w.high(c.Kind) && !w.acked(c.Kind):
		w.said = append(w.said, latched(c.Kind, at)...)
	default:
		w.said = append(w.said, cleared(c.Kind, at)...)
	}
}

// order lets an order come, at a sample as it counts.
func (w *words) order(o api.Order, at int64) {
	if o.Kind == 2 && o.N >= 1 && o.N <= longest {
		w.said = append(w.said, silent(at, o.N)...)
	}
	if o.Kind != 1 {
		return
	}
	for kind := 1; kind <= 5; kind++ {
		if !w.stands(kind) || w.acked(kind) {
			continue
		}
		w.said = append(w.said, acked(kind, at)...)
		if !w.on(kind) {
			w.said = append(w.said, cleared(kind, at)...)
		}
	}
}

// tick lets a sample come, with orders.
func (w *words) tick(at int64, l []api.Order) {
	at = nearest(at)
	for _, o := range l {
		w.order(o, at)
	}
	waits := false
	for kind := 1; kind <= 5; kind++ {
		if w.stands(kind) && w.on(kind) && !w.acked(kind) && !w.high(kind) && at-w.since(kind) >= w.escape {
			w.said = append(w.said, escaped(kind, at)...)
		}
		waits = waits || w.stands(kind) && !w.acked(kind)
	}
	switch sounds := waits && at >= w.till(); {
	case sounds && !w.sounds():
		w.said = append(w.said, loud(at)...)
	case !sounds && w.sounds():
		w.said = append(w.said, still(at)...)
	}
}

// deed is a call: Tick at a sample with orders, if there is a sample, else Conds.
type deed struct {
	conds  []api.Cond
	at     []int64
	orders []api.Order
}

// of lets the deed be done, and is what is said.
func (d deed) of(a *alarm.Alarm) outcome {
	if len(d.at) > 0 {
		return a.Tick(d.at[0], d.orders...)
	}
	return a.Conds(d.conds...)
}

// by is what the words say of the deed.
func (d deed) by(w *words) outcome {
	many := len(w.said)
	for _, at := range d.at {
		w.tick(at, d.orders)
	}
	for _, c := range d.conds {
		w.cond(c)
	}
	return slices.Clone(w.said[many:])
}

// held is an alarm, and the words of all that came to it.
type held struct {
	*alarm.Alarm
	words
}

// heldOf is a new alarm of an escape that may be.
func heldOf(t *testing.T, escape int64) *held {
	t.Helper()
	h := &held{Alarm: of(t, escape), words: words{escape: escape}}
	h.look(t)
	return h
}

// look holds what stands against the words.
func (h *held) look(t *testing.T) {
	t.Helper()
	is(t, h.Alarm, h.words.signs())
	if got, want := h.Sounds(), h.words.sounds(); got != want {
		t.Fatalf("Sounds: %v; want %v", got, want)
	}
}

// does does a deed, and holds what is said, and what stands, against the words.
func (h *held) does(t *testing.T, d deed) outcome {
	t.Helper()
	was := h.words.signs()
	got, want := d.of(h.Alarm), d.by(&h.words)
	if !slices.Equal(got, want) {
		t.Fatalf("escape %d, where it stood as %s, %+v: %v; want %v", h.escape, was, d, got, want)
	}
	h.look(t)
	return got
}

// clone is the alarm's clone, held against words of its own.
func (h *held) clone() *held {
	w := h.words
	w.conds, w.said = slices.Clone(w.conds), slices.Clone(w.said)
	return &held{Alarm: h.Clone(), words: w}
}
