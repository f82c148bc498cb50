package model_test

import (
	"testing"

	"systole/api"
	"systole/model"
)

// P26.1: two detectors side by side know nothing of each other, with the same mains or with others, whoever of them is handed items.
func TestTwoDetectors(t *testing.T) {
	x := noise(53)
	for _, mains := range [][2]int{{50, 50}, {0, 60}, {60, 50}} {
		one, two := holdDetect(t, mains[0]), holdDetect(t, mains[1])
		first, second := itemsOf(x.rowOf(4000)), itemsOf(x.rowOf(4000))
		for len(first) > 0 && len(second) > 0 {
			n := min(x.from(1, 50), int64(len(first)), int64(len(second)))
			one.push(t, first[:n]...)
			two.push(t, second[:n]...)
			first, second = first[n:], second[n:]
			if x.upTo(30) == 0 {
				one.push(t, item(int(x.from(1, 3)), 0))
			}
		}
	}
	busy, idle := detector(t, 50), detector(t, 50)
	busy.Push(numbered(0, pulses(900, 3000, 3, 100)...)...)
	tells(t, idle, stays(5, 500, 0), numbered(5, even(900, 500)...)...)
	idle.Push(item(1, 9))
	if l := of(busy.Push(numbered(900, pulses(200, 3000, 3, 100)...)...), 6); len(l) != 2 || l[0].Beat.RR != 100 {
		t.Errorf("%v", l)
	}
}

// P26.2: two judges side by side know nothing of each other, with the same limits or with others; one that nothing came to has nothing.
func TestTwoJudges(t *testing.T) {
	x := noise(59)
	for range 20 {
		l := x.limits()
		one, two, three, idle := holdJudge(t, l), holdJudge(t, x.limits()), holdJudge(t, l), judge(t, l)
		first, second := x.marks(one.words.limits, 500), x.marks(two.words.limits, 500)
		for i := range first {
			due := x.orders(x.one(0, 0, 0, 1), 0, 10)
			one.push(t, all(due...), all(due...), first[i])
			two.push(t, none, none, second[i])
			if i%2 == 0 {
				three.push(t, none, none, first[i])
			}
		}
		is(t, idle, ".....")
		says(t, idle, nil, sample(0, 0))
	}
	busy, idle := judge(t, quick()), judge(t, quick())
	busy.Push(nil, append(flutter(0, 10), sample(300, 0), off(301), dark(301))...)
	is(t, busy, "bss..")
	is(t, idle, ".....")
	orderly(t, idle, nil, orders{ack(0)}, sample(301, 0))
	is(t, busy, "bss..")
}

// P26.3: each Marks and each Run is of a detector and a judge of its own: what one was asked plays no part in the next one; the same is answered again and again (R5).
func TestEachAnew(t *testing.T) {
	x := noise(61)
	for range 10 {
		l, other := x.limits(), x.limits()
		e, o := x.rowOf(2500), x.orders(30, 0, 3000)
		marked, said := model.Marks(l.Mains, e...), model.Run(l, o, e...)
		for range 3 {
			model.Run(other, o, x.rowOf(500)...)
			model.Marks(other.Mains, x.rowOf(500)...)
			alike(t, model.Marks(l.Mains, e...), marked)
			alike(t, model.Run(l, o, e...), said)
		}
	}
	alike(t, model.Run(usual(), nil, hidden(0, 20)...), and(raised(1, 19), loud(19)))
	alike(t, model.Run(usual(), nil, hidden(5, 20)...), and(raised(1, 24), loud(24)))
	alike(t, model.Marks(50, missing(3)), marks{gap(3)})
	alike(t, model.Run(usual(), orders{ack(0)}, api.Event{}), nil)
}
