package alarm_test

import (
	"systole/alarm"
	"systole/api"
)

// step is a step of a way, at a sample.
type step func(a *alarm.Alarm, kind int, at int64)

func raise(a *alarm.Alarm, kind int, at int64) { a.Conds(begins(kind, at)) }
func lapse(a *alarm.Alarm, kind int, at int64) { a.Conds(ends(kind, at)) }
func wait(a *alarm.Alarm, _ int, at int64)     { a.Tick(at) }
func see(a *alarm.Alarm, _ int, at int64)      { a.Tick(at, ack()) }

// way is how one kind of an alarm of escape 100 comes into a state: its steps, and the sign that it shows then. Of a condition that begins then, and of one that ends: which kind of out is said (0: none), and which sign it shows.
type way struct {
	name         string
	steps        []step
	sign         byte
	begin, end   int
	begun, ended byte
}

// alarm is a new one that went the way: a step each hundred samples, from 1000 on.
func (w way) alarm(kind int) *alarm.Alarm {
	a, _ := alarm.New(100)
	for i, s := range w.steps {
		s(a, kind, 1000+100*int64(i))
	}
	return a
}

// ways are all states of a kind that there are, most of them in more than one way.
func ways(kind int) []way {
	l := []way{
		{"new", nil, '.', 2, 0, 's', '.'},
		{"acknowledged", []step{raise, see}, 'a', 0, 3, 'a', '.'},
		{"acknowledged, and cleared", []step{raise, see, lapse}, '.', 2, 0, 's', '.'},
		{"acknowledged, cleared, and raised anew", []step{raise, see, lapse, raise}, 's', 0, 4, 's', 's'},
	}
	if kind == api.AlAsys || kind == api.AlFib {
		return append(l,
			way{"raised", []step{raise}, 's', 0, 4, 's', 's'},
			way{"raised for long", []step{raise, wait, wait}, 's', 0, 4, 's', 's'},
			way{"latched", []step{raise, lapse}, 's', 0, 0, 's', 's'},
			way{"latched, and on again", []step{raise, lapse, raise}, 's', 0, 4, 's', 's'},
			way{"latched twice", []step{raise, lapse, raise, lapse}, 's', 0, 0, 's', 's'},
			way{"latched, on again, and acknowledged", []step{raise, lapse, raise, see}, 'a', 0, 3, 'a', '.'},
			way{"latched, and acknowledged", []step{raise, lapse, see}, '.', 2, 0, 's', '.'},
		)
	}
	l[3].end, l[3].ended = 3, '.'
	return append(l,
		way{"raised", []step{raise}, 's', 0, 3, 's', '.'},
		way{"cleared", []step{raise, lapse}, '.', 2, 0, 's', '.'},
		way{"cleared, and raised anew", []step{raise, lapse, raise}, 's', 0, 3, 's', '.'},
		way{"acknowledged for long", []step{raise, see, wait, wait}, 'a', 0, 3, 'a', '.'},
		way{"escalated", []step{raise, wait}, 'S', 0, 4, 'S', 'S'},
		way{"escalated, and acknowledged", []step{raise, wait, see}, 'A', 0, 3, 'A', '.'},
		way{"escalated, acknowledged, and cleared", []step{raise, wait, see, lapse}, '.', 2, 0, 's', '.'},
		way{"escalated, acknowledged, cleared, and raised anew", []step{raise, wait, see, lapse, raise}, 's', 0, 3, 's', '.'},
		way{"latched", []step{raise, wait, lapse}, 'S', 0, 0, 'S', 'S'},
		way{"latched, and on again", []step{raise, wait, lapse, raise}, 'S', 0, 4, 'S', 'S'},
		way{"latched twice", []step{raise, wait, lapse, raise, lapse}, 'S', 0, 0, 'S', 'S'},
		way{"latched, on again, and acknowledged", []step{raise, wait, lapse, raise, see}, 'A', 0, 3, 'A', '.'},
		way{"latched, and acknowledged", []step{raise, wait, lapse, see}, '.', 2, 0, 's', '.'},
	)
}
