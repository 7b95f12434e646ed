package learn

import (
	"math"
	"slices"
	"strconv"
	"testing"

	"chatelaine/api"
	"chatelaine/msg"
)

// entry returns an entry without a ballot.
func entry(slot int, text string) msg.Entry { return msg.Entry{Slot: slot, Text: text} }

// slots returns entries for the slots from one on, with the texts t and the
// number of the slot.
func slots(from, to int) []msg.Entry {
	var l []msg.Entry
	for slot := from; slot <= to; slot++ {
		l = append(l, entry(slot, "t"+strconv.Itoa(slot)))
	}
	return l
}

// learns fails unless Learn returns want for each of these entries.
func learns(t *testing.T, l *Learner, want api.Errno, entries ...msg.Entry) {
	t.Helper()
	for _, e := range entries {
		if got := l.Learn(e.Slot, e.Text); got != want {
			t.Fatalf("Learn(%d, %q): %d, not %d", e.Slot, e.Text, got, want)
		}
	}
}

// executes fails unless Next returns these entries, and then nothing.
func executes(t *testing.T, l *Learner, want ...msg.Entry) {
	t.Helper()
	for _, w := range want {
		if got, is := l.Next(); !is || got != w {
			t.Fatalf("%v, %v, not %v", got, is, w)
		}
	}
	for range 2 {
		if got, is := l.Next(); is || got != (msg.Entry{}) {
			t.Fatalf("%v, %v", got, is)
		}
	}
}

// is fails unless this is what Base and Done return.
func is(t *testing.T, l *Learner, base, done int) {
	t.Helper()
	if l.Base() != base || l.Done() != done {
		t.Fatalf("base %d, done %d, not %d, %d", l.Base(), l.Done(), base, done)
	}
}

// knows fails unless each of these texts is known.
func knows(t *testing.T, l *Learner, entries ...msg.Entry) {
	t.Helper()
	for _, e := range entries {
		if got, is := l.Known(e.Slot); !is || got != e.Text {
			t.Fatalf("slot %d: %q, %v, not %q", e.Slot, got, is, e.Text)
		}
	}
}

// unknown fails unless none of these slots is known.
func unknown(t *testing.T, l *Learner, slots ...int) {
	t.Helper()
	for _, slot := range slots {
		if got, is := l.Known(slot); is || got != "" {
			t.Fatalf("slot %d: %q, %v", slot, got, is)
		}
	}
}

// misses fails unless this is the missing slot; 0 means that there is none.
func misses(t *testing.T, l *Learner, want int) {
	t.Helper()
	if got, is := l.Missing(); got != want || is != (want != 0) {
		t.Fatalf("%d, %v, not %d", got, is, want)
	}
}

// logs fails unless Log(from, most) returns these entries.
func logs(t *testing.T, l *Learner, from, most int, want ...msg.Entry) {
	t.Helper()
	if got := l.Log(from, most); !slices.Equal(got, want) {
		t.Fatalf("Log(%d, %d): %v, not %v", from, most, got, want)
	}
}

// P19.1: the example.
func TestExample(t *testing.T) {
	l := New(0)
	learns(t, l, api.OK, entry(2, "b"))
	executes(t, l)
	learns(t, l, api.OK, entry(1, "a"))
	executes(t, l, entry(1, "a"), entry(2, "b"))
}

// P19.1: a new learner has executed everything up to its base, and knows
// nothing else.
func TestNew(t *testing.T) {
	for _, base := range []int{math.MinInt, -1, 0, 1, 7, api.MaxSlot - 1, api.MaxSlot} {
		l := New(base)
		want := max(base, 0)
		is(t, l, want, want)
		executes(t, l)
		unknown(t, l, 0, 1, want-1, want, want+1)
		misses(t, l, 0)
		logs(t, l, 0, 9)
		logs(t, l, want, math.MaxInt)
		is(t, l, want, want)
	}
	a, b := New(0), New(0)
	learns(t, a, api.OK, entry(1, "a"))
	unknown(t, b, 1)
}

// P19.1: Learn up to Base does nothing, whatever the text.
func TestLearnUpToBase(t *testing.T) {
	l := New(3)
	learns(t, l, api.OK, entry(0, "?"), entry(1, "?"), entry(3, "?"), entry(3, "!"))
	unknown(t, l, 0, 1, 3)
	executes(t, l)
	is(t, l, 3, 3)
	learns(t, l, api.OK, slots(4, 6)...)
	executes(t, l, slots(4, 6)...)
	l.Fold(5)
	learns(t, l, api.OK, entry(4, "?"), entry(5, "?"))
	learns(t, l, api.ErrCorrupt, entry(6, "?"))
	unknown(t, l, 4, 5)
	l.Install(8)
	learns(t, l, api.OK, entry(6, "?"), entry(8, "?"))
	unknown(t, l, 6, 8)
}

// P19.1: a slot has one text, before it is executed and afterwards; an empty
// text is one.
func TestLearnAgain(t *testing.T) {
	l := New(0)
	first := []msg.Entry{entry(1, ""), entry(2, "b"), entry(4, "d"), entry(5, "")}
	second := []msg.Entry{entry(1, "?"), entry(2, ""), entry(2, "B"), entry(4, "d "), entry(5, "\x00")}
	for range 3 {
		learns(t, l, api.OK, first...)
		learns(t, l, api.ErrCorrupt, second...)
		knows(t, l, first...)
		unknown(t, l, 3, 6)
		misses(t, l, 3)
	}
	executes(t, l, first[:2]...)
	learns(t, l, api.OK, first...)
	learns(t, l, api.ErrCorrupt, second...)
	knows(t, l, first...)
	executes(t, l)
	logs(t, l, 1, 9, first[:2]...)
}

// P19.1: a text of any bytes and any length is known as it is.
func TestLearnAnyText(t *testing.T) {
	l := New(0)
	all := make([]byte, 256*300)
	for i := range all {
		all[i] = byte(i)
	}
	learns(t, l, api.OK, entry(1, string(all)), entry(2, "\xff\xfe"))
	knows(t, l, entry(1, string(all)), entry(2, "\xff\xfe"))
	executes(t, l, entry(1, string(all)), entry(2, "\xff\xfe"))
}

// P19.1: no slot that is more than MaxAhead above Done is learned.
func TestLearnAhead(t *testing.T) {
	if MaxAhead != 1024 {
		t.Errorf("MaxAhead is %d", MaxAhead)
	}
	for _, base := range []int{0, 5, api.MaxSlot - 2000} {
		l := New(base)
		learns(t, l, api.ErrBig, entry(base+1025, "x"), entry(base+1026, "x"), entry(api.MaxSlot, "x"))
		unknown(t, l, base+1025, base+1026, api.MaxSlot)
		misses(t, l, 0)
		learns(t, l, api.OK, entry(base+1024, "x"))
		misses(t, l, base+1)
		learns(t, l, api.OK, entry(base+1, "a"))
		learns(t, l, api.ErrBig, entry(base+1025, "x"))
		executes(t, l, entry(base+1, "a"))
		learns(t, l, api.OK, entry(base+1025, "x"))
		learns(t, l, api.ErrBig, entry(base+1026, "x"))
		learns(t, l, api.ErrCorrupt, entry(base+1025, "y"))
		// The limit is above Done, not above Base.
		l.Fold(base + 1)
		learns(t, l, api.ErrBig, entry(base+1026, "x"))
		l.Install(base + 2)
		learns(t, l, api.OK, entry(base+1026, "x"))
		learns(t, l, api.ErrBig, entry(base+1027, "x"))
	}
}

// P19.1: all of the slots ahead may be known.
func TestLearnAllAhead(t *testing.T) {
	l := New(7)
	all := slots(8, 7+MaxAhead)
	backwards := slices.Clone(all)
	slices.Reverse(backwards)
	for _, e := range backwards {
		learns(t, l, api.OK, e)
		if e.Slot > 8 {
			misses(t, l, 8)
		}
	}
	misses(t, l, 0)
	knows(t, l, all...)
	executes(t, l, all...)
	logs(t, l, 0, math.MaxInt, all...)
}

// P19.1: Next executes one slot, if its text is known.
func TestNext(t *testing.T) {
	l := New(4)
	learns(t, l, api.OK, entry(5, "e"), entry(6, ""), entry(8, "h"))
	if got, known := l.Next(); !known || got != entry(5, "e") {
		t.Fatalf("%v, %v", got, known)
	}
	is(t, l, 4, 5)
	if got, known := l.Next(); !known || got != entry(6, "") {
		t.Fatalf("%v, %v", got, known)
	}
	is(t, l, 4, 6)
	executes(t, l)
	is(t, l, 4, 6)
	knows(t, l, entry(5, "e"), entry(6, ""), entry(8, "h"))
}

// P19.1: slots are known whether they are executed or not.
func TestKnown(t *testing.T) {
	l := New(2)
	learns(t, l, api.OK, entry(3, "c"), entry(5, "e"))
	executes(t, l, entry(3, "c"))
	knows(t, l, entry(3, "c"), entry(5, "e"))
	unknown(t, l, 0, 1, 2, 4, 6, api.MaxSlot)
}

// P19.1: Log returns what was executed, from a slot on, and not more than so
// many.
func TestLog(t *testing.T) {
	l := New(10)
	learns(t, l, api.OK, slots(11, 15)...)
	learns(t, l, api.OK, slots(17, 18)...)
	logs(t, l, 11, 9)
	executes(t, l, slots(11, 15)...)
	for _, from := range []int{0, 1, 9, 10, 11} {
		logs(t, l, from, math.MaxInt, slots(11, 15)...)
		logs(t, l, from, 6, slots(11, 15)...)
		logs(t, l, from, 5, slots(11, 15)...)
		logs(t, l, from, 4, slots(11, 14)...)
		logs(t, l, from, 1, slots(11, 11)...)
	}
	logs(t, l, 12, 9, slots(12, 15)...)
	logs(t, l, 12, 2, slots(12, 13)...)
	logs(t, l, 15, 9, slots(15, 15)...)
	for _, from := range []int{16, 17, 18, 19, api.MaxSlot, math.MaxInt} {
		logs(t, l, from, 9)
	}
	for _, most := range []int{0, -1, math.MinInt} {
		logs(t, l, 11, most)
		logs(t, l, 16, most)
	}
	l.Fold(13)
	logs(t, l, 11, 9, slots(14, 15)...)
	logs(t, l, 11, 1, slots(14, 14)...)
	logs(t, l, 15, 1, slots(15, 15)...)
	l.Install(16)
	logs(t, l, 0, 9)
	executes(t, l, slots(17, 18)...)
	logs(t, l, 0, 9, slots(17, 18)...)
}

// P19.1: the least slot above Done that is not known, if a greater one is.
func TestMissing(t *testing.T) {
	l := New(3)
	learns(t, l, api.OK, slots(4, 5)...)
	misses(t, l, 0)
	learns(t, l, api.OK, slots(9, 9)...)
	misses(t, l, 6)
	learns(t, l, api.OK, slots(7, 7)...)
	misses(t, l, 6)
	executes(t, l, slots(4, 5)...)
	misses(t, l, 6)
	learns(t, l, api.OK, slots(6, 6)...)
	misses(t, l, 8)
	executes(t, l, slots(6, 7)...)
	misses(t, l, 8)
	l.Fold(7)
	misses(t, l, 8)
	l.Install(8)
	misses(t, l, 0)
	executes(t, l, slots(9, 9)...)
	misses(t, l, 0)
}

// P19.1: Fold takes a base above Base and up to Done.
func TestFold(t *testing.T) {
	l := New(2)
	learns(t, l, api.OK, slots(3, 9)...)
	for _, base := range []int{math.MinInt, -1, 0, 1, 2, 3, 9, 10, math.MaxInt} {
		if l.Fold(base) {
			t.Fatalf("Fold(%d) before anything is executed", base)
		}
	}
	for range 5 {
		l.Next()
	}
	for _, base := range []int{math.MinInt, -1, 0, 1, 2, 8, 9, 10, api.MaxSlot, math.MaxInt} {
		if l.Fold(base) {
			t.Fatalf("Fold(%d) between 2 and 7", base)
		}
	}
	is(t, l, 2, 7)
	knows(t, l, slots(3, 9)...)
	for base := 3; base <= 7; base++ {
		if !l.Fold(base) || l.Fold(base) {
			t.Fatalf("Fold(%d)", base)
		}
		is(t, l, base, 7)
		unknown(t, l, base-1, base)
		knows(t, l, slots(base+1, 9)...)
	}
	executes(t, l, slots(8, 9)...)
	is(t, l, 7, 9)
}

// P19.1: Install takes a base above Done.
func TestInstall(t *testing.T) {
	l := New(2)
	learns(t, l, api.OK, slots(3, 6)...)
	learns(t, l, api.OK, slots(9, 10)...)
	l.Next()
	for _, base := range []int{math.MinInt, -1, 0, 1, 2, 3} {
		if l.Install(base) {
			t.Fatalf("Install(%d) up to 3", base)
		}
	}
	is(t, l, 2, 3)
	knows(t, l, slots(3, 6)...)
	if !l.Install(4) || l.Install(4) {
		t.Fatal("Install(4)")
	}
	is(t, l, 4, 4)
	unknown(t, l, 3, 4)
	// It goes on with the texts that are known above the image.
	executes(t, l, slots(5, 6)...)
	if !l.Install(8) || l.Install(7) {
		t.Fatal("Install(8)")
	}
	is(t, l, 8, 8)
	unknown(t, l, 5, 6, 7, 8)
	executes(t, l, slots(9, 10)...)
	is(t, l, 8, 10)
	if !l.Install(api.MaxSlot) {
		t.Fatal("Install(MaxSlot)")
	}
	is(t, l, api.MaxSlot, api.MaxSlot)
	unknown(t, l, 9, 10, api.MaxSlot)
	executes(t, l)
}

// P19.1: the slot that Done returns can be folded, and not installed.
func TestFoldAndInstallAtDone(t *testing.T) {
	l := New(0)
	learns(t, l, api.OK, slots(1, 3)...)
	executes(t, l, slots(1, 3)...)
	if l.Install(3) || !l.Fold(3) || l.Fold(3) || l.Install(3) {
		t.Fatal("base 3")
	}
	is(t, l, 3, 3)
	logs(t, l, 0, 9)
	learns(t, l, api.OK, slots(4, 4)...)
	executes(t, l, slots(4, 4)...)
}

// P19.1: a clone and its original are independent.
func TestClone(t *testing.T) {
	for _, swap := range []bool{false, true} {
		a := New(1)
		learns(t, a, api.OK, slots(2, 4)...)
		learns(t, a, api.OK, slots(6, 6)...)
		a.Next()
		a.Next()
		a.Fold(2)
		b := a.Clone()
		if swap {
			a, b = b, a
		}
		learns(t, a, api.OK, slots(5, 5)...)
		executes(t, a, slots(4, 6)...)
		a.Fold(5)
		is(t, b, 2, 3)
		knows(t, b, slots(3, 4)...)
		knows(t, b, slots(6, 6)...)
		unknown(t, b, 1, 2, 5)
		misses(t, b, 5)
		learns(t, b, api.OK, entry(5, "other"), entry(7, "seven"))
		executes(t, b, entry(4, "t4"), entry(5, "other"), entry(6, "t6"), entry(7, "seven"))
		unknown(t, a, 5, 7)
		is(t, a, 5, 6)
		b.Install(20)
		logs(t, a, 0, 9, slots(6, 6)...)
	}
}

// P19.1: a list that was returned belongs to the caller.
func TestLogIsNewMemory(t *testing.T) {
	l := New(0)
	learns(t, l, api.OK, slots(1, 5)...)
	for range 3 {
		l.Next()
	}
	for range 2 {
		got := l.Log(1, 2)
		clear(got[:cap(got)])
	}
	logs(t, l, 1, 9, slots(1, 3)...)
	executes(t, l, slots(4, 5)...)
	empty := append(l.Log(9, 9), entry(9, "?"))
	if len(empty) != 1 {
		t.Fatal(empty)
	}
	logs(t, l, 1, 9, slots(1, 5)...)
}

// P1: no number makes a method panic, or executes a slot that was not learned.
func TestAnyNumbers(t *testing.T) {
	numbers := []int{math.MinInt, math.MinInt + 1, -1, 0, 1, api.MaxSlot, api.MaxSlot + 1, math.MaxInt - 1025, math.MaxInt - 1, math.MaxInt}
	for _, base := range numbers {
		for _, n := range numbers {
			l := New(base)
			learned := l.Learn(n, "x") == api.OK && n > l.Base()
			l.Missing()
			l.Log(n, n)
			if text, known := l.Known(n); known != learned || known && text != "x" {
				t.Errorf("New(%d), Known(%d): %q, %v", base, n, text, known)
			}
			if e, is := l.Next(); is && (!learned || n != l.Done()) {
				t.Errorf("New(%d), Learn(%d): executed %v", base, n, e)
			}
			l.Clone().Fold(n)
			l.Install(n)
			if e, is := l.Next(); is {
				t.Errorf("New(%d), Install(%d): executed %v", base, n, e)
			}
			l.Learn(n, "y")
			l.Missing()
			for _, e := range l.Log(n, n) {
				if e.Slot <= l.Base() || e.Slot > l.Done() {
					t.Errorf("New(%d), Log(%d): %v", base, n, e)
				}
			}
		}
	}
}
