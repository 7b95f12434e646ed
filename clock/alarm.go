package clock

import (
	"cmp"
	"slices"
)

// Alarm is a key, and when its alarm is.
type Alarm struct{ Key, At int }

// compare compares the times, and then the keys.
func compare(a, b Alarm) int {
	return cmp.Or(cmp.Compare(a.At, b.At), cmp.Compare(a.Key, b.Key))
}

// Alarms is at most one alarm of each key.
type Alarms struct{ list []Alarm } // in the order of compare

// find returns the position of the alarm of a key, or -1.
func (a *Alarms) find(key int) int {
	return slices.IndexFunc(a.list, func(x Alarm) bool { return x.Key == key })
}

// Set sets the alarm of a key, and replaces an earlier one.
func (a *Alarms) Set(key, at int) {
	a.Off(key)
	x := Alarm{key, at}
	i, _ := slices.BinarySearchFunc(a.list, x, compare)
	a.list = slices.Insert(a.list, i, x)
}

// Off removes the alarm of a key, and reports whether there was one.
func (a *Alarms) Off(key int) bool {
	i := a.find(key)
	if i < 0 {
		return false
	}
	a.list = slices.Delete(a.list, i, i+1)
	return true
}

// At returns the time of the alarm of a key, and whether there is one.
func (a *Alarms) At(key int) (int, bool) {
	i := a.find(key)
	if i < 0 {
		return 0, false
	}
	return a.list[i].At, true
}

// Due removes and returns the alarms at now or earlier.
func (a *Alarms) Due(now int) []Alarm {
	n := slices.IndexFunc(a.list, func(x Alarm) bool { return x.At > now })
	if n < 0 {
		n = len(a.list)
	}
	due := slices.Clone(a.list[:n])
	a.list = slices.Delete(a.list, 0, n)
	return due
}

// Len returns the number of alarms.
func (a *Alarms) Len() int { return len(a.list) }
