package ring_test

import (
	"testing"

	"systole/ring"
)

// P2.4: things that go round a ring's room several times come out in order, each once, one by one or some at once.
func TestRound(t *testing.T) {
	for log := range 6 {
		room := 1 << log
		for _, step := range []int{1, 2, 3, room - 1, room, room + 1} {
			if step < 1 {
				continue
			}
			roundByTakes(t, made[int](t, log), room, step)
			roundByPops(t, made[int](t, log), room, step)
		}
	}
}

// roundByTakes offers numbers, those that found no room again, and takes some at once.
func roundByTakes(t *testing.T, r *ring.Ring[int], room, step int) {
	t.Helper()
	const rounds = 7
	all := rounds * room
	next := 0
	var out []int
	for len(out) < all {
		next += r.Put(numbers(next, min(next+step, all))...)
		full(t, r, room)
		holds(t, r, room, numbers(len(out), next)...)
		l := r.Take((step + 1) / 2)
		if len(l) == 0 {
			t.Fatalf("with room for %d nothing comes behind %d", room, len(out))
		}
		out = append(out, l...)
		full(t, r, room)
		holds(t, r, room, numbers(len(out), next)...)
	}
	inOrder(t, out, all)
}

// roundByPops offers numbers till one finds no room, and pops some of them.
func roundByPops(t *testing.T, r *ring.Ring[int], room, step int) {
	t.Helper()
	const rounds = 7
	all := rounds * room
	next := 0
	var out []int
	for len(out) < all {
		for next < all && r.Put(next) == 1 {
			next++
		}
		full(t, r, room)
		before := len(out)
		for range step {
			if x, ok := r.Pop(); ok {
				out = append(out, x)
			}
		}
		if len(out) == before {
			t.Fatalf("with room for %d nothing comes behind %d", room, before)
		}
		holds(t, r, room, numbers(len(out), next)...)
	}
	popsNone(t, r)
	inOrder(t, out, all)
}

// inOrder: the numbers from 0 on, each once.
func inOrder(t *testing.T, l []int, all int) {
	t.Helper()
	if len(l) != all {
		t.Fatalf("%d came out of %d", len(l), all)
	}
	for i, n := range l {
		if n != i {
			t.Fatalf("%d came out at %d", n, i)
		}
	}
}

// P2.5: a ring never has more than its room; Len and Room together are it.
func full[T any](t *testing.T, r *ring.Ring[T], room int) {
	t.Helper()
	if r.Len() < 0 || r.Len() > room || r.Room() < 0 || r.Len()+r.Room() != room {
		t.Fatalf("with room for %d: Len %d, Room %d", room, r.Len(), r.Room())
	}
}

// plain is what a ring is held against: a list and its room.
type plain struct {
	l    []int
	room int
}

func (p *plain) put(l ...int) int {
	n := 0
	for _, x := range l {
		if len(p.l) < p.room {
			p.l = append(p.l, x)
			n++
		}
	}
	return n
}

func (p *plain) take(n int) []int {
	var out []int
	for len(out) < n && len(p.l) > 0 {
		out = append(out, p.l[0])
		p.l = p.l[1:]
	}
	return out
}

// What may be done in one step of TestAllWays.
const (
	doPutOne = iota
	doPutThree
	doPop
	doTakeTwo
	doClear
	doClone
	ways
)

// P2.4, P2.5, and all calls together: each row of up to 6 steps, with room for 1, 2 and 4, answers as a plain list does.
func TestAllWays(t *testing.T) {
	for log := range 3 {
		steps := make([]int, 6)
		for {
			walk(t, log, steps)
			if !another(steps) {
				break
			}
		}
	}
}

// another goes on to the next row of steps, as one counts; false behind the last one.
func another(steps []int) bool {
	for i := range steps {
		steps[i]++
		if steps[i] < ways {
			return true
		}
		steps[i] = 0
	}
	return false
}

// walk does a row of steps with a ring and with a plain list.
func walk(t *testing.T, log int, steps []int) {
	t.Helper()
	r := made[int](t, log)
	p := &plain{room: 1 << log}
	for i, what := range steps {
		step(t, r, p, what, 10*(i+1))
		if what == doClone {
			c := r.Clone()
			r.Clear()
			r = c
		}
		full(t, r, p.room)
		holds(t, r, p.room, p.l...)
	}
	takes(t, r, p.room+1, p.take(p.room+1)...)
	holds(t, r, p.room)
}

// step does one step with both; x is a number that none ahead of it put.
func step(t *testing.T, r *ring.Ring[int], p *plain, what, x int) {
	t.Helper()
	switch what {
	case doPutOne:
		put(t, r, p.put(x), x)
	case doPutThree:
		put(t, r, p.put(x, x+1, x+2), x, x+1, x+2)
	case doPop:
		if l := p.take(1); len(l) == 1 {
			pops(t, r, l[0])
		} else {
			popsNone(t, r)
		}
	case doTakeTwo:
		takes(t, r, 2, p.take(2)...)
	case doClear:
		r.Clear()
		p.l = nil
	}
}
