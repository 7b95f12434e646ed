package clock

import (
	"cmp"
	"math"
	"math/rand"
	"slices"
	"testing"
)

// due fails unless Due(now) returns these alarms.
func due(t *testing.T, a *Alarms, now int, want ...Alarm) {
	t.Helper()
	if got := a.Due(now); !slices.Equal(got, want) {
		t.Fatalf("Due(%d): %v, not %v", now, got, want)
	}
}

// at fails unless the alarm of a key is at want, or there is none.
func at(t *testing.T, a *Alarms, key, want int, is bool) {
	t.Helper()
	if got, ok := a.At(key); got != want || ok != is {
		t.Fatalf("At(%d): %d, %v, not %d, %v", key, got, ok, want, is)
	}
}

// has fails unless there are so many alarms.
func has(t *testing.T, a *Alarms, want int) {
	t.Helper()
	if got := a.Len(); got != want {
		t.Fatalf("%d alarms, not %d", got, want)
	}
}

// P15.1: the example.
func TestExample(t *testing.T) {
	var a Alarms
	a.Set(7, 3)
	a.Set(1, 3)
	a.Set(2, 5)
	due(t, &a, 4, Alarm{1, 3}, Alarm{7, 3})
	due(t, &a, 9, Alarm{2, 5})
	has(t, &a, 0)
}

// P15.1: the zero Alarms is empty.
func TestNoAlarms(t *testing.T) {
	var a Alarms
	has(t, &a, 0)
	at(t, &a, 0, 0, false)
	due(t, &a, math.MaxInt)
	if a.Off(0) {
		t.Errorf("Off of no alarm")
	}
}

// P15.1: an alarm replaces the earlier one of its key, and no other one.
func TestSet(t *testing.T) {
	var a Alarms
	a.Set(1, 5)
	a.Set(2, 6)
	a.Set(1, 9)
	has(t, &a, 2)
	at(t, &a, 1, 9, true)
	at(t, &a, 2, 6, true)
	at(t, &a, 3, 0, false)
	due(t, &a, 8, Alarm{2, 6})
	a.Set(1, 2)
	due(t, &a, 1)
	due(t, &a, 2, Alarm{1, 2})
	at(t, &a, 1, 0, false)
	a.Set(1, 0)
	at(t, &a, 1, 0, true)
	a.Set(1, 0)
	has(t, &a, 1)
}

// P15.1: Off removes an alarm once.
func TestOff(t *testing.T) {
	var a Alarms
	a.Set(1, 5)
	a.Set(2, 5)
	if a.Off(3) || !a.Off(1) || a.Off(1) {
		t.Errorf("Off")
	}
	has(t, &a, 1)
	at(t, &a, 1, 0, false)
	due(t, &a, 5, Alarm{2, 5})
	if a.Off(2) {
		t.Errorf("Off of an alarm that was due")
	}
}

// P15.1: alarms at now or earlier are due, by their times and then keys.
func TestDue(t *testing.T) {
	var a Alarms
	for _, x := range []Alarm{{3, 4}, {-1, 4}, {0, 7}, {9, -2}, {2, 4}, {5, 1}, {math.MinInt, 4}, {math.MaxInt, 4}} {
		a.Set(x.Key, x.At)
	}
	due(t, &a, -3)
	due(t, &a, 3, Alarm{9, -2}, Alarm{5, 1})
	due(t, &a, 3)
	due(t, &a, 4, Alarm{math.MinInt, 4}, Alarm{-1, 4}, Alarm{2, 4}, Alarm{3, 4}, Alarm{math.MaxInt, 4})
	due(t, &a, 6)
	due(t, &a, 7, Alarm{0, 7})
	has(t, &a, 0)
}

// P15.1: keys and times may be any numbers.
func TestAnyNumbers(t *testing.T) {
	var a Alarms
	a.Set(math.MaxInt, math.MaxInt)
	a.Set(math.MinInt, math.MinInt)
	a.Set(0, math.MaxInt)
	at(t, &a, math.MinInt, math.MinInt, true)
	due(t, &a, math.MinInt, Alarm{math.MinInt, math.MinInt})
	due(t, &a, math.MaxInt-1)
	due(t, &a, math.MaxInt, Alarm{0, math.MaxInt}, Alarm{math.MaxInt, math.MaxInt})
}

// Rule 5: the alarms that Due returned are not those that are left.
func TestDueIsNewMemory(t *testing.T) {
	var a Alarms
	for k := range 6 {
		a.Set(k, k)
	}
	first := a.Due(2)
	first = append(first, Alarm{8, 8}, Alarm{9, 9})
	for i := range first {
		first[i] = Alarm{-1, -1}
	}
	a.Set(0, 4)
	due(t, &a, 9, Alarm{3, 3}, Alarm{0, 4}, Alarm{4, 4}, Alarm{5, 5})
	second := first[:cap(first)]
	a.Set(1, 1)
	for _, x := range second[:5] {
		if x != (Alarm{-1, -1}) {
			t.Errorf("a result was changed: %v", first)
		}
	}
}

// sorted returns the alarms of a map at now or earlier.
func sorted(m map[int]int, now int) []Alarm {
	var l []Alarm
	for k, at := range m {
		if at <= now {
			l = append(l, Alarm{k, at})
		}
	}
	slices.SortFunc(l, func(a, b Alarm) int {
		if a.At != b.At {
			return cmp.Compare(a.At, b.At)
		}
		return cmp.Compare(a.Key, b.Key)
	})
	return l
}

// P15.1: after any calls, the alarms are those of a map.
func TestAnyCallsOfAlarms(t *testing.T) {
	g := rand.New(rand.NewSource(1))
	for range 300 {
		var a Alarms
		m := map[int]int{}
		for range 200 {
			k, time := g.Intn(12)-2, g.Intn(20)-3
			was, is := m[k]
			at(t, &a, k, was, is)
			switch g.Intn(6) {
			case 0:
				if a.Off(k) != is {
					t.Fatalf("Off(%d): %v", k, !is)
				}
				delete(m, k)
			case 1:
				l := sorted(m, time)
				due(t, &a, time, l...)
				for _, x := range l {
					delete(m, x.Key)
				}
			default:
				a.Set(k, time)
				m[k] = time
			}
			has(t, &a, len(m))
		}
	}
}
