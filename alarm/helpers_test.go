package alarm_test

import (
	"math"
	"slices"
	"testing"

	"systole/alarm"
	"systole/api"
)

const (
	most     = math.MaxInt64
	least    = math.MinInt64
	maxAt    = 1099511627776
	longest  = 24000
	greatest = 1048576
)

// outcome is what is said.
type outcome = []api.Out

func begins(kind int, at int64) api.Cond { return api.Cond{Kind: kind, At: at, On: true} }
func ends(kind int, at int64) api.Cond   { return api.Cond{Kind: kind, At: at} }

func ack() api.Order            { return api.Order{Kind: 1} }
func silence(n int64) api.Order { return api.Order{Kind: 2, N: n} }

func raised(kind int, at int64) outcome  { return outcome{{Kind: 2, At: at, Alarm: kind}} }
func cleared(kind int, at int64) outcome { return outcome{{Kind: 3, At: at, Alarm: kind}} }
func latched(kind int, at int64) outcome { return outcome{{Kind: 4, At: at, Alarm: kind}} }
func acked(kind int, at int64) outcome   { return outcome{{Kind: 5, At: at, Alarm: kind}} }
func escaped(kind int, at int64) outcome { return outcome{{Kind: 6, At: at, Alarm: kind}} }
func loud(at int64) outcome              { return outcome{{Kind: 7, At: at, N: 1}} }
func still(at int64) outcome             { return outcome{{Kind: 7, At: at}} }
func silent(at, n int64) outcome         { return outcome{{Kind: 8, At: at, N: n}} }

// and is several outcomes, one behind the other.
func and(l ...outcome) outcome {
	return slices.Concat(l...)
}

// nearest is as what a sample's number counts.
func nearest(at int64) int64 {
	switch {
	case at < 0:
		return 0
	case at > maxAt:
		return maxAt
	}
	return at
}

// of is a new alarm of an escape that may be.
func of(t *testing.T, escape int64) *alarm.Alarm {
	t.Helper()
	a, e := alarm.New(escape)
	if e != api.OK || a == nil {
		t.Fatalf("New(%d): %v, %v", escape, a, e)
	}
	return a
}

// says lets conditions come in one call, and looks at what is said.
func says(t *testing.T, a *alarm.Alarm, want outcome, l ...api.Cond) {
	t.Helper()
	if got := a.Conds(l...); !slices.Equal(got, want) {
		t.Fatalf("Conds of %v: %v; want %v", l, got, want)
	}
}

// ticks lets a sample come, and looks at what is said.
func ticks(t *testing.T, a *alarm.Alarm, want outcome, at int64, l ...api.Order) {
	t.Helper()
	if got := a.Tick(at, l...); !slices.Equal(got, want) {
		t.Fatalf("Tick of %d, %v: %v; want %v", at, l, got, want)
	}
}

// signs is what Stands, High and Acked say, a sign for each kind from 1 to 5: a point, if it does not stand; a for one that is acknowledged, s for others; a capital for one that is high without being of kind 2 or 3.
func signs(a *alarm.Alarm) string {
	row := make([]byte, 5)
	for i := range row {
		kind := i + 1
		stands, high, known := a.Stands(kind), a.High(kind), a.Acked(kind)
		switch always := kind == 2 || kind == 3; {
		case high && !stands && !always, !high && always, known && !stands:
			row[i] = '?'
		case !stands:
			row[i] = '.'
		case high && !always && known:
			row[i] = 'A'
		case high && !always:
			row[i] = 'S'
		case known:
			row[i] = 'a'
		default:
			row[i] = 's'
		}
	}
	return string(row)
}

// is looks at what stands, twice in a row; that there is nothing of kinds that there aren't; and that no condition says nothing.
func is(t *testing.T, a *alarm.Alarm, want string) {
	t.Helper()
	for range 2 {
		if got := signs(a); got != want {
			t.Fatalf("it stands as %s; want %s", got, want)
		}
		for _, kind := range []int{0, 6, 7, -1, -2, math.MinInt, math.MaxInt} {
			if a.Stands(kind) || a.High(kind) || a.Acked(kind) {
				t.Fatalf("Stands, High, Acked of %d: %v, %v, %v", kind, a.Stands(kind), a.High(kind), a.Acked(kind))
			}
		}
		if got := a.Conds(); len(got) != 0 {
			t.Fatalf("Conds of no condition: %v", got)
		}
	}
}

// only is the signs of which all but one kind's are points.
func only(kind int, sign byte) string {
	row := []byte(".....")
	row[kind-1] = sign
	return string(row)
}

// edges are numbers at which something changes: signs, MaxAt, the longest silence, and the ends of ranges of bits, among them those whose lower bits are those of small numbers.
func edges() []int64 {
	l := []int64{0, 1, 2, 3, 50, 99, 100, 101, 200, 201, 1000, longest - 1, longest, longest + 1}
	for _, n := range []int64{0, 1, 2, 100, 101, longest, greatest} {
		l = append(l, maxAt-n, maxAt+n)
	}
	for _, k := range []int{8, 15, 16, 20, 31, 32, 40, 41, 47, 48, 61, 62} {
		l = append(l, 1<<k-1, 1<<k, 1<<k+1, 1<<k+2, 1<<k+77)
	}
	l = append(l, most-1, most)
	for _, n := range l {
		l = append(l, -n)
	}
	return append(l, least, least+1, least+77)
}

// otherKinds are kinds that there aren't, of alarms and of orders; of orders there are no 3, 4 and 5 either.
func otherKinds() []int {
	l := []int{0, 6, 7, 8, 9, 10, 100, math.MaxInt, math.MaxInt - 1, math.MinInt}
	for n := 1; n <= 7; n++ {
		l = append(l, -n, 1<<3+n, 1<<8+n, 1<<16+n, 1<<31+n, 1<<32+n, 1<<62+n, -1<<32+n, math.MinInt+n)
	}
	return l
}
