package learn

import (
	"math/rand"
	"slices"
	"strconv"
	"testing"

	"chatelaine/api"
	"chatelaine/msg"
)

// model is a learner as the chapter describes it.
type model struct {
	base, done int
	texts      map[int]string
}

func (x *model) learn(slot int, text string) api.Errno {
	if slot <= x.base {
		return api.OK
	}
	if known, is := x.texts[slot]; is {
		if known != text {
			return api.ErrCorrupt
		}
		return api.OK
	}
	if slot > x.done+1024 {
		return api.ErrBig
	}
	x.texts[slot] = text
	return api.OK
}

func (x *model) next() (msg.Entry, bool) {
	text, is := x.texts[x.done+1]
	if !is {
		return msg.Entry{}, false
	}
	x.done++
	return msg.Entry{Slot: x.done, Text: text}, true
}

func (x *model) log(from, most int) []msg.Entry {
	var l []msg.Entry
	for slot := max(from, x.base+1); slot <= x.done && len(l) < most; slot++ {
		l = append(l, msg.Entry{Slot: slot, Text: x.texts[slot]})
	}
	return l
}

func (x *model) missing() int {
	greatest := 0
	for slot := range x.texts {
		greatest = max(greatest, slot)
	}
	for slot := x.done + 1; slot < greatest; slot++ {
		if _, is := x.texts[slot]; !is {
			return slot
		}
	}
	return 0
}

func (x *model) forget(base int) {
	x.base = base
	for slot := range x.texts {
		if slot <= base {
			delete(x.texts, slot)
		}
	}
}

func (x *model) fold(base int) bool {
	if base <= x.base || base > x.done {
		return false
	}
	x.forget(base)
	return true
}

func (x *model) install(base int) bool {
	if base <= x.done {
		return false
	}
	x.forget(base)
	x.done = base
	return true
}

// check fails unless the learner has the state of the model.
func (x *model) check(t *testing.T, g *rand.Rand, l *Learner) {
	t.Helper()
	is(t, l, x.base, x.done)
	for slot := x.base - 2; slot < x.done+20; slot++ {
		if text, is := x.texts[slot]; is {
			knows(t, l, entry(slot, text))
		} else {
			unknown(t, l, slot)
		}
	}
	misses(t, l, x.missing())
	from, most := x.base-3+g.Intn(x.done-x.base+8), g.Intn(8)-1
	logs(t, l, from, most, x.log(from, most)...)
}

// call makes one call of the learner and of the model.
func call(t *testing.T, g *rand.Rand, l *Learner, x *model) {
	t.Helper()
	switch g.Intn(12) {
	default:
		slot, text := max(x.done-4+g.Intn(16), 0), strconv.Itoa(g.Intn(2))
		if g.Intn(40) == 0 {
			slot = x.done + 1022 + g.Intn(4)
		}
		if got, want := l.Learn(slot, text), x.learn(slot, text); got != want {
			t.Fatalf("Learn(%d, %q): %d, not %d", slot, text, got, want)
		}
	case 0, 1, 2, 3:
		got, is := l.Next()
		if want, was := x.next(); got != want || is != was {
			t.Fatalf("Next: %v, %v, not %v, %v", got, is, want, was)
		}
	case 4:
		base := x.base + g.Intn(x.done-x.base+3) - 1
		if got, want := l.Fold(base), x.fold(base); got != want {
			t.Fatalf("Fold(%d): %v", base, got)
		}
	case 5:
		if g.Intn(3) > 0 {
			return
		}
		base := x.done + g.Intn(8) - 3
		if got, want := l.Install(base), x.install(base); got != want {
			t.Fatalf("Install(%d): %v", base, got)
		}
	}
}

// P19.1: after any calls, a learner is the model, also when it is a copy.
func TestAnyCalls(t *testing.T) {
	g := rand.New(rand.NewSource(1))
	executed := 0
	for range 1000 {
		base := []int{0, 3, api.MaxSlot - 1100}[g.Intn(3)]
		l, x := New(base), &model{base: base, done: base, texts: map[int]string{}}
		for range 100 {
			before := x.done
			call(t, g, l, x)
			if x.done == before+1 && x.base <= before {
				executed++
			}
			x.check(t, g, l)
			if g.Intn(20) == 0 {
				l = l.Clone()
			}
		}
	}
	if executed < 5000 {
		t.Errorf("only %d slots were executed", executed)
	}
}

// P19.2: in whatever order slots are learned, they are executed in order, each
// once, with the learned text.
func TestInOrder(t *testing.T) {
	g := rand.New(rand.NewSource(2))
	for range 300 {
		base, n := g.Intn(20), 1+g.Intn(120)
		want := slots(base+1, base+n)
		l := New(base)
		var got []msg.Entry
		run := func() {
			for e, is := l.Next(); is; e, is = l.Next() {
				got = append(got, e)
			}
		}
		for range 2 {
			for _, i := range g.Perm(n) {
				learns(t, l, api.OK, want[i])
				learns(t, l, api.ErrCorrupt, entry(want[i].Slot, "other"))
				if g.Intn(3) == 0 {
					run()
				}
			}
		}
		run()
		if !slices.Equal(got, want) {
			t.Fatalf("%v, not %v", got, want)
		}
		logs(t, l, 0, n, want...)
		misses(t, l, 0)
	}
}

// P19.2: what an image contains is not executed; what follows it is, also when
// it was learned before the image came, and none of it twice.
func TestInOrderWithImages(t *testing.T) {
	g := rand.New(rand.NewSource(3))
	installed := 0
	for range 500 {
		n := 1 + g.Intn(80)
		all := slots(1, n)
		l := New(0)
		last := 0
		for range 12 * n {
			i := g.Intn(n)
			learns(t, l, api.OK, all[i])
			if k := g.Intn(n); g.Intn(8) == 0 && l.Fold(k) && last < k {
				t.Fatalf("Fold(%d) after %d", k, last)
			}
			if g.Intn(6*n) == 0 && l.Install(i+1) {
				last = i + 1
				installed++
			}
			for g.Intn(2) == 0 {
				e, is := l.Next()
				if !is {
					break
				}
				if e != all[last] {
					t.Fatalf("%v after %d", e, last)
				}
				last++
			}
			is(t, l, l.Base(), last)
		}
	}
	if installed < 200 {
		t.Errorf("only %d images were installed", installed)
	}
}
