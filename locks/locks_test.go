package locks

import (
	"math"
	"slices"
	"strings"
	"testing"

	"chatelaine/api"
	"chatelaine/path"
)

const most = math.MaxUint64

// at returns the path with the text s, which has one.
func at(t *testing.T, s string) path.Path {
	t.Helper()
	p, err := path.Parse(s)
	if err != nil {
		t.Fatalf("Parse(%q): %v", s, err)
	}
	return p
}

// shared returns a shared lock, or a request for one without a token.
func shared(t *testing.T, session int, s string, token uint64) Lock {
	t.Helper()
	return Lock{Session: session, Path: at(t, s), Token: token}
}

// excl returns an exclusive lock, or a request for one without a token.
func excl(t *testing.T, session int, s string, token uint64) Lock {
	t.Helper()
	return Lock{Session: session, Path: at(t, s), Excl: true, Token: token}
}

// acquires fails unless Acquire(x, wait) returns the rest.
func acquires(t *testing.T, b *Book, x Lock, wait bool, want Lock, place int, e api.Errno) {
	t.Helper()
	if l, n, got := b.Acquire(x, wait); l != want || n != place || got != e {
		t.Fatalf("Acquire(%v, %v): %v, %d, %d, not %v, %d, %d", x, wait, l, n, got, want, place, e)
	}
}

// gets fails unless x is granted with its token, which is ignored, and whether
// or not it would wait.
func gets(t *testing.T, b *Book, x Lock) {
	t.Helper()
	acquires(t, b.Clone(), x, true, x, 0, api.OK)
	acquires(t, b, x, false, x, 0, api.OK)
}

// queues fails unless x, which has no token, waits with a place.
func queues(t *testing.T, b *Book, x Lock, place int) {
	t.Helper()
	acquires(t, b, x, true, x, place, api.OK)
}

// refuses fails unless x is refused, and nothing changes.
func refuses(t *testing.T, b *Book, x Lock, wait bool, e api.Errno) {
	t.Helper()
	before := b.Clone()
	acquires(t, b, x, wait, Lock{}, 0, e)
	equal(t, b, before)
}

// releases fails unless Release(session, s) grants these locks.
func releases(t *testing.T, b *Book, session int, s string, want ...Lock) {
	t.Helper()
	if got, e := b.Release(session, at(t, s)); !slices.Equal(got, want) || e != api.OK {
		t.Fatalf("Release(%d, %q): %v, %d, not %v", session, s, got, e, want)
	}
}

// hasNone fails unless Release(session, s) is ErrNone, and nothing changes.
func hasNone(t *testing.T, b *Book, session int, s string) {
	t.Helper()
	before := b.Clone()
	if got, e := b.Release(session, at(t, s)); len(got) != 0 || e != api.ErrNone {
		t.Fatalf("Release(%d, %q): %v, %d", session, s, got, e)
	}
	equal(t, b, before)
	if x, place := b.Find(session, at(t, s)); x != (Lock{}) || place != -1 {
		t.Fatalf("Find(%d, %q): %v, %d", session, s, x, place)
	}
}

// drops fails unless Drop(session) grants these locks.
func drops(t *testing.T, b *Book, session int, want ...Lock) {
	t.Helper()
	if got := b.Drop(session); !slices.Equal(got, want) {
		t.Fatalf("Drop(%d): %v, not %v", session, got, want)
	}
}

// list returns locks as a list.
func list(l ...Lock) []Lock { return l }

// has fails unless the book has this content.
func has(t *testing.T, b *Book, held, waits []Lock, last uint64) {
	t.Helper()
	if !slices.Equal(b.Held(), held) || !slices.Equal(b.Waits(), waits) || b.Last() != last {
		t.Fatalf("held %v, waiting %v, last %d, not %v, %v, %d", b.Held(), b.Waits(), b.Last(), held, waits, last)
	}
	for _, x := range held {
		if got, place := b.Find(x.Session, x.Path); got != x || place != 0 {
			t.Fatalf("Find(%v): %v, %d", x, got, place)
		}
	}
	for i, x := range waits {
		if got, place := b.Find(x.Session, x.Path); got != x || place != i+1 {
			t.Fatalf("Find(%v): %v, %d", x, got, place)
		}
	}
}

// equal fails unless two books have the same content.
func equal(t *testing.T, b, o *Book) {
	t.Helper()
	has(t, b, o.Held(), o.Waits(), o.Last())
}

// P22.1: the example.
func TestExample(t *testing.T) {
	b := New(0)
	gets(t, b, excl(t, 1, "/a", 1))
	queues(t, b, shared(t, 2, "/a/b", 0), 1)
	queues(t, b, shared(t, 3, "/a", 0), 2)
	releases(t, b, 1, "/a", shared(t, 2, "/a/b", 2), shared(t, 3, "/a", 3))
	has(t, b, list(shared(t, 3, "/a", 3), shared(t, 2, "/a/b", 2)), nil, 3)
}

// P22.1: a new book is empty, and its tokens follow the last one.
func TestNew(t *testing.T) {
	for _, last := range []uint64{0, 1, 41, 1 << 40, 1<<63 - 1, 1 << 63, most - 1} {
		b := New(last)
		has(t, b, nil, nil, last)
		hasNone(t, b, 1, "/")
		drops(t, b, 1)
		has(t, b, nil, nil, last)
		gets(t, b, excl(t, 1, "/a", last+1))
		has(t, b, list(excl(t, 1, "/a", last+1)), nil, last+1)
	}
}

// P22.1: locks of different sessions conflict if their paths are in line and
// one of them is exclusive.
func TestConflicts(t *testing.T) {
	for _, c := range []struct {
		a, b   string
		inLine bool
	}{
		{"/", "/", true}, {"/", "/a", true}, {"/a", "/", true}, {"/a", "/a", true}, {"/a", "/a/b", true}, {"/a/b", "/a", true},
		{"/a/b/c/d/e/f", "/", true}, {"/a/b/c/d/e/f", "/a/b", true},
		{"/a", "/b", false}, {"/a", "/ab", false}, {"/ab", "/a", false}, {"/a/b", "/a/c", false}, {"/a", "/a-b", false},
		{"/a/b", "/ab", false}, {"/a/b", "/b", false}, {"/b/a", "/a", false},
	} {
		for k := range 8 {
			one, other := Lock{Session: 1, Path: at(t, c.a), Excl: k&1 != 0}, Lock{Session: 2, Path: at(t, c.b), Excl: k&2 != 0}
			if k&4 != 0 {
				one.Session, other.Session = 2, 1
			}
			b := New(0)
			one.Token = 1
			gets(t, b, one)
			if c.inLine && (one.Excl || other.Excl) {
				refuses(t, b, other, false, api.ErrHeld)
				queues(t, b, other, 1)
				continue
			}
			other.Token = 2
			gets(t, b, other)
		}
	}
}

// P22.1: the locks of one session never conflict.
func TestOwnLocks(t *testing.T) {
	b := New(0)
	gets(t, b, excl(t, 1, "/a", 1))
	gets(t, b, excl(t, 1, "/a/b", 2))
	gets(t, b, shared(t, 1, "/", 3))
	gets(t, b, shared(t, 1, "/a/b/c", 4))
	queues(t, b, excl(t, 2, "/a/b", 0), 1)
	gets(t, b, excl(t, 1, "/c", 5))
	// Nor does its own request keep a session from a lock.
	gets(t, b, shared(t, 2, "/d", 6))
	queues(t, b, excl(t, 1, "/d", 0), 2)
	gets(t, b, shared(t, 1, "/d/e/f", 7))
	has(t, b, list(shared(t, 1, "/", 3), excl(t, 1, "/a", 1), excl(t, 1, "/a/b", 2), shared(t, 1, "/a/b/c", 4), excl(t, 1, "/c", 5),
		shared(t, 2, "/d", 6), shared(t, 1, "/d/e/f", 7)), list(excl(t, 2, "/a/b", 0), excl(t, 1, "/d", 0)), 7)
}

// P22.1: the held locks are ordered by their paths, part by part, and then by
// their sessions.
func TestHeldOrder(t *testing.T) {
	texts := []string{"/", "/-", "/a", "/a/b", "/a/b/c", "/a/c", "/a-b", "/a0", "/aa", "/b"}
	b := New(0)
	var want []Lock
	for i, s := range texts {
		for _, session := range []int{1, 2, 10, math.MaxInt} {
			if (i+session)%2 == 0 || i == 3 {
				want = append(want, shared(t, session, s, 0))
			}
		}
	}
	for i := range want {
		j := i * 7 % len(want)
		want[j].Token = uint64(i + 1)
		gets(t, b, want[j])
	}
	has(t, b, want, nil, uint64(len(want)))
}

// P22.1, case 1: a path that the session holds already.
func TestAcquireHeld(t *testing.T) {
	b := New(10)
	a, c := excl(t, 1, "/a", 11), shared(t, 1, "/c", 12)
	gets(t, b, a)
	gets(t, b, c)
	queues(t, b, excl(t, 2, "/", 0), 1)
	for _, wait := range []bool{false, true} {
		for _, token := range []uint64{0, 5, 11, 12, most} {
			x := a
			x.Token = token
			acquires(t, b, x, wait, a, 0, api.OK)
			x.Excl = false
			refuses(t, b, x, wait, api.ErrHeld)
			x = c
			x.Token = token
			acquires(t, b, x, wait, c, 0, api.OK)
			x.Excl = true
			refuses(t, b, x, wait, api.ErrHeld)
		}
	}
	has(t, b, list(a, c), list(excl(t, 2, "/", 0)), 12)
	// A lock that the session alone has is not made exclusive either.
	releases(t, b, 2, "/")
	refuses(t, b, excl(t, 1, "/c", 0), true, api.ErrHeld)
	// Another path is another lock.
	gets(t, b, shared(t, 1, "/c/d", 13))
}

// P22.1, case 2: a path that the session waits for already.
func TestAcquireWaiting(t *testing.T) {
	b := New(10)
	gets(t, b, excl(t, 1, "/", 11))
	queues(t, b, shared(t, 2, "/a", 0), 1)
	queues(t, b, excl(t, 3, "/a", 0), 2)
	queues(t, b, excl(t, 2, "/b", 0), 3)
	for _, wait := range []bool{false, true} {
		for _, token := range []uint64{0, 12, most} {
			acquires(t, b, shared(t, 2, "/a", token), wait, shared(t, 2, "/a", 0), 1, api.OK)
			acquires(t, b, excl(t, 3, "/a", token), wait, excl(t, 3, "/a", 0), 2, api.OK)
			acquires(t, b, excl(t, 2, "/b", token), wait, excl(t, 2, "/b", 0), 3, api.OK)
			refuses(t, b, excl(t, 2, "/a", token), wait, api.ErrHeld)
			refuses(t, b, shared(t, 3, "/a", token), wait, api.ErrHeld)
			refuses(t, b, shared(t, 2, "/b", token), wait, api.ErrHeld)
		}
	}
	has(t, b, list(excl(t, 1, "/", 11)), list(shared(t, 2, "/a", 0), excl(t, 3, "/a", 0), excl(t, 2, "/b", 0)), 11)
	// A place changes when an older request is removed.
	releases(t, b, 2, "/a")
	acquires(t, b, excl(t, 2, "/b", 0), false, excl(t, 2, "/b", 0), 2, api.OK)
}

// names are paths of which no two are in line.
var names = strings.Fields("/a /b /c /d /e /f /g /h /i /j /k /l")

// P22.1, case 3: a session has at most MaxHeld locks and requests.
func TestMaxHeld(t *testing.T) {
	for waits := range api.MaxHeld + 1 {
		b := New(0)
		var last uint64
		for i := range waits {
			last++
			gets(t, b, excl(t, 2, names[i], last))
		}
		for i := range api.MaxHeld {
			if i < waits {
				queues(t, b, shared(t, 1, names[i], 0), i+1)
				continue
			}
			last++
			gets(t, b, shared(t, 1, names[i], last))
		}
		for _, wait := range []bool{false, true} {
			refuses(t, b, shared(t, 1, names[8], 0), wait, api.ErrFull)
			refuses(t, b, shared(t, 1, "/", 0), wait, api.ErrFull)
			// What it has already is not one more.
			for i := range api.MaxHeld {
				x, place := b.Find(1, at(t, names[i]))
				acquires(t, b, x, wait, x, place, api.OK)
				refuses(t, b, excl(t, 1, names[i], 0), wait, api.ErrHeld)
			}
		}
		// The limit is that of each session.
		gets(t, b, shared(t, 3, names[8], last+1))
		releases(t, b, 1, names[0])
		gets(t, b, shared(t, 1, names[8], last+2))
	}
}

// P22.1, case 4: a request is granted if no held lock and no older request
// conflicts.
func TestGranted(t *testing.T) {
	b := New(0)
	gets(t, b, shared(t, 1, "/a", 1))
	gets(t, b, shared(t, 2, "/a", 2))
	queues(t, b, excl(t, 3, "/a/b", 0), 1)
	// Only the request conflicts with these.
	refuses(t, b, shared(t, 4, "/a", 0), false, api.ErrHeld)
	refuses(t, b, shared(t, 4, "/a/b/c", 0), false, api.ErrHeld)
	queues(t, b, shared(t, 4, "/a", 0), 2)
	// Nothing conflicts with these.
	gets(t, b, shared(t, 4, "/a/c", 3))
	gets(t, b, excl(t, 4, "/b", 4))
	gets(t, b, shared(t, 3, "/a", 5))
	has(t, b, list(shared(t, 1, "/a", 1), shared(t, 2, "/a", 2), shared(t, 3, "/a", 5), shared(t, 4, "/a/c", 3), excl(t, 4, "/b", 4)),
		list(excl(t, 3, "/a/b", 0), shared(t, 4, "/a", 0)), 5)
}

// P22.1, case 4 and P22.3: after the last token none is given.
func TestExhausted(t *testing.T) {
	b := New(most - 1)
	gets(t, b, excl(t, 1, "/a", most))
	for _, wait := range []bool{false, true} {
		refuses(t, b, excl(t, 1, "/b", 0), wait, api.ErrExhausted)
		refuses(t, b, shared(t, 2, "/b", 0), wait, api.ErrExhausted)
		acquires(t, b, excl(t, 1, "/a", 0), wait, excl(t, 1, "/a", most), 0, api.OK)
	}
	refuses(t, b, shared(t, 2, "/a", 0), false, api.ErrHeld)
	queues(t, b, shared(t, 2, "/a", 0), 1)
	queues(t, b, excl(t, 3, "/", 0), 2)
	// Nothing can be granted when it is released, and requests go on waiting.
	releases(t, b, 1, "/a")
	has(t, b, nil, list(shared(t, 2, "/a", 0), excl(t, 3, "/", 0)), most)
	acquires(t, b, shared(t, 2, "/a", 0), false, shared(t, 2, "/a", 0), 1, api.OK)
	refuses(t, b, excl(t, 2, "/a", 0), true, api.ErrHeld)
	refuses(t, b, shared(t, 3, "/a", 0), true, api.ErrExhausted)
	queues(t, b, shared(t, 4, "/a", 0), 3)
	drops(t, b, 3)
	has(t, b, nil, list(shared(t, 2, "/a", 0), shared(t, 4, "/a", 0)), most)
	refuses(t, New(most), excl(t, 1, "/", 0), true, api.ErrExhausted)
}

// P22.1 and P22.3: a release grants the oldest requests, as long as there is a
// token.
func TestLastTokens(t *testing.T) {
	for left := range 5 {
		start := most - uint64(left) - 1
		b := New(start)
		gets(t, b, excl(t, 1, "/", start+1))
		var granted, waits []Lock
		for i := range 4 {
			queues(t, b, excl(t, 2, names[i], 0), i+1)
			if i < left {
				granted = append(granted, excl(t, 2, names[i], start+2+uint64(i)))
			} else {
				waits = append(waits, excl(t, 2, names[i], 0))
			}
		}
		if left%2 == 0 {
			releases(t, b, 1, "/", granted...)
		} else {
			drops(t, b, 1, granted...)
		}
		has(t, b, granted, waits, start+1+uint64(min(left, 4)))
	}
}

// P22.1, cases 5 and 6: a request that cannot be granted, and no more may wait.
func TestMaxWait(t *testing.T) {
	b := New(0)
	gets(t, b, excl(t, 1, "/a", 1))
	for i := range api.MaxWait {
		refuses(t, b, shared(t, 2+i, "/a", 0), false, api.ErrHeld)
		queues(t, b, shared(t, 2+i, "/a", 0), i+1)
	}
	refuses(t, b, shared(t, 20, "/a", 0), false, api.ErrHeld)
	refuses(t, b, shared(t, 20, "/a", 0), true, api.ErrFull)
	refuses(t, b, excl(t, 2, "/a/b", 0), false, api.ErrHeld)
	refuses(t, b, excl(t, 2, "/a/b", 0), true, api.ErrFull)
	// What waits already does so, and what can be granted does not wait.
	acquires(t, b, shared(t, 9, "/a", 0), true, shared(t, 9, "/a", 0), 8, api.OK)
	gets(t, b, shared(t, 20, "/b", 2))
	releases(t, b, 5, "/a")
	queues(t, b, shared(t, 20, "/a", 0), 8)
	refuses(t, b, shared(t, 21, "/a", 0), true, api.ErrFull)
}

// P22.1: which case is the first one, if several apply.
func TestCaseOrder(t *testing.T) {
	b := New(most - 10)
	gets(t, b, excl(t, 9, "/", most-9))
	for i := range api.MaxWait {
		queues(t, b, shared(t, 1, names[i], 0), i+1)
	}
	// 2, 3, 5 and 6.
	acquires(t, b, shared(t, 1, "/a", 0), false, shared(t, 1, "/a", 0), 1, api.OK)
	refuses(t, b, excl(t, 1, "/a", 0), true, api.ErrHeld)
	refuses(t, b, shared(t, 1, "/i", 0), false, api.ErrFull)
	refuses(t, b, shared(t, 2, "/i", 0), false, api.ErrHeld)
	refuses(t, b, shared(t, 2, "/i", 0), true, api.ErrFull)
	// 1 and 3, when all tokens are used up.
	drops(t, b, 9, func() (l []Lock) {
		for i := range api.MaxWait {
			l = append(l, shared(t, 1, names[i], most-8+uint64(i)))
		}
		return l
	}()...)
	gets(t, b, shared(t, 2, "/", most))
	refuses(t, b, shared(t, 1, "/i", 0), true, api.ErrFull)
	refuses(t, b, excl(t, 1, "/a", 0), true, api.ErrHeld)
	acquires(t, b, shared(t, 1, "/h", 0), true, shared(t, 1, "/h", most-1), 0, api.OK)
	// 4 and 5.
	refuses(t, b, shared(t, 2, "/i", 0), false, api.ErrExhausted)
	refuses(t, b, excl(t, 3, "/a", 0), false, api.ErrHeld)
	queues(t, b, excl(t, 3, "/a", 0), 1)
}

// P22.1: what is released lets the requests be granted that nothing else holds
// up, from the oldest one on.
func TestRelease(t *testing.T) {
	b := New(0)
	gets(t, b, excl(t, 1, "/a", 1))
	gets(t, b, excl(t, 1, "/b", 2))
	queues(t, b, excl(t, 2, "/b", 0), 1)
	queues(t, b, shared(t, 3, "/a/x", 0), 2)
	queues(t, b, excl(t, 4, "/a/y", 0), 3)
	queues(t, b, excl(t, 5, "/a", 0), 4)
	queues(t, b, shared(t, 6, "/a/x", 0), 5)
	releases(t, b, 1, "/a", shared(t, 3, "/a/x", 3), excl(t, 4, "/a/y", 4))
	has(t, b, list(shared(t, 3, "/a/x", 3), excl(t, 4, "/a/y", 4), excl(t, 1, "/b", 2)),
		list(excl(t, 2, "/b", 0), excl(t, 5, "/a", 0), shared(t, 6, "/a/x", 0)), 4)
	hasNone(t, b, 1, "/a")
	hasNone(t, b, 6, "/a")
	hasNone(t, b, 7, "/b")
	// A request that is withdrawn holds nobody up any more.
	releases(t, b, 5, "/a", shared(t, 6, "/a/x", 5))
	releases(t, b, 3, "/a/x")
	releases(t, b, 2, "/b")
	releases(t, b, 1, "/b")
	hasNone(t, b, 1, "/b")
	releases(t, b, 4, "/a/y")
	releases(t, b, 6, "/a/x")
	has(t, b, nil, nil, 5)
	hasNone(t, b, 6, "/a/x")
	gets(t, b, excl(t, 1, "/", 6))
}

// P22.1: a lock that is granted holds up the requests after it.
func TestReleaseOneAfterTheOther(t *testing.T) {
	b := New(0)
	gets(t, b, shared(t, 1, "/a", 1))
	queues(t, b, excl(t, 2, "/a", 0), 1)
	queues(t, b, excl(t, 3, "/a/b", 0), 2)
	queues(t, b, shared(t, 4, "/", 0), 3)
	queues(t, b, shared(t, 5, "/a", 0), 4)
	releases(t, b, 1, "/a", excl(t, 2, "/a", 2))
	releases(t, b, 2, "/a", excl(t, 3, "/a/b", 3))
	releases(t, b, 3, "/a/b", shared(t, 4, "/", 4), shared(t, 5, "/a", 5))
	has(t, b, list(shared(t, 4, "/", 4), shared(t, 5, "/a", 5)), nil, 5)
}

// P22.1: only the lock or request of the session for this path is removed.
func TestReleaseOnlyOne(t *testing.T) {
	b := New(0)
	gets(t, b, shared(t, 1, "/a", 1))
	gets(t, b, shared(t, 2, "/a", 2))
	gets(t, b, shared(t, 1, "/a/b", 3))
	gets(t, b, shared(t, 1, "/", 4))
	queues(t, b, excl(t, 3, "/a/b", 0), 1)
	queues(t, b, excl(t, 3, "/a", 0), 2)
	releases(t, b, 1, "/a")
	has(t, b, list(shared(t, 1, "/", 4), shared(t, 2, "/a", 2), shared(t, 1, "/a/b", 3)), list(excl(t, 3, "/a/b", 0), excl(t, 3, "/a", 0)), 4)
	releases(t, b, 3, "/a/b")
	has(t, b, list(shared(t, 1, "/", 4), shared(t, 2, "/a", 2), shared(t, 1, "/a/b", 3)), list(excl(t, 3, "/a", 0)), 4)
}

// P22.1: Drop removes everything of the session, and then examines the requests
// once.
func TestDrop(t *testing.T) {
	b := New(0)
	gets(t, b, shared(t, 1, "/a", 1))
	gets(t, b, shared(t, 2, "/a", 2))
	gets(t, b, excl(t, 1, "/b", 3))
	queues(t, b, excl(t, 3, "/a", 0), 1)
	queues(t, b, excl(t, 1, "/a/b", 0), 2)
	queues(t, b, shared(t, 4, "/a/b", 0), 3)
	queues(t, b, excl(t, 4, "/b", 0), 4)
	drops(t, b, 9)
	drops(t, b, 1, excl(t, 4, "/b", 4))
	has(t, b, list(shared(t, 2, "/a", 2), excl(t, 4, "/b", 4)), list(excl(t, 3, "/a", 0), shared(t, 4, "/a/b", 0)), 4)
	drops(t, b, 3, shared(t, 4, "/a/b", 5))
	drops(t, b, 4)
	drops(t, b, 4)
	drops(t, b, 2)
	has(t, b, nil, nil, 5)
}

// P22.1: the order of the locks that are granted is that of the requests, not
// that of Held.
func TestGrantOrder(t *testing.T) {
	b := New(0)
	gets(t, b, excl(t, 1, "/", 1))
	queues(t, b, excl(t, 5, "/z", 0), 1)
	queues(t, b, shared(t, 4, "/a/b", 0), 2)
	queues(t, b, shared(t, 3, "/a", 0), 3)
	queues(t, b, shared(t, 2, "/a", 0), 4)
	drops(t, b, 1, excl(t, 5, "/z", 2), shared(t, 4, "/a/b", 3), shared(t, 3, "/a", 4), shared(t, 2, "/a", 5))
	has(t, b, list(shared(t, 2, "/a", 5), shared(t, 3, "/a", 4), shared(t, 4, "/a/b", 3), excl(t, 5, "/z", 2)), nil, 5)
}

// spoil changes the elements of a list, and those in its spare capacity.
func spoil(l []Lock) {
	l = l[:cap(l)]
	for i := range l {
		l[i] = Lock{Session: 99, Excl: true, Token: 99}
	}
}

// Rule 5: a book has no memory in common with its arguments, its results or its
// copies.
func TestMemory(t *testing.T) {
	held := append(make([]Lock, 0, 8), shared(t, 1, "/a", 1), shared(t, 2, "/a", 2), excl(t, 1, "/b", 4))
	waits := append(make([]Lock, 0, 8), excl(t, 3, "/a", 0), shared(t, 4, "/b", 0), shared(t, 4, "/b/c", 0))
	wantHeld, wantWaits := slices.Clone(held), slices.Clone(waits)
	wantAll := slices.Clone(held[:cap(held)])
	b, e := Load(held, waits, 9)
	if e != api.OK || !slices.Equal(held[:cap(held)], wantAll) {
		t.Fatalf("%d; %v", e, held[:cap(held)])
	}
	spoil(held)
	spoil(waits)
	has(t, b, wantHeld, wantWaits, 9)
	spoil(b.Held())
	spoil(b.Waits())
	has(t, b, wantHeld, wantWaits, 9)

	c := b.Clone()
	has(t, c, wantHeld, wantWaits, 9)
	got, _ := c.Release(1, at(t, "/b"))
	spoil(got)
	spoil(c.Drop(1))
	spoil(c.Drop(2))
	gets(t, c, excl(t, 7, "/c", 13))
	has(t, b, wantHeld, wantWaits, 9)
	has(t, c, list(excl(t, 3, "/a", 12), shared(t, 4, "/b", 10), shared(t, 4, "/b/c", 11), excl(t, 7, "/c", 13)), nil, 13)

	c = b.Clone()
	drops(t, b, 1, shared(t, 4, "/b", 10), shared(t, 4, "/b/c", 11))
	gets(t, b, excl(t, 5, "/0", 12))
	queues(t, b, excl(t, 6, "/b", 0), 2)
	has(t, c, wantHeld, wantWaits, 9)
}

// P1: Load returns no book with an error, and that can be called as well.
func TestNoBook(t *testing.T) {
	b, e := Load(nil, list(excl(t, 1, "/a", 0)), 0)
	if b != nil || e != api.ErrForm {
		t.Fatalf("%v, %d", b, e)
	}
	for range 2 {
		has(t, b, nil, nil, 0)
		hasNone(t, b, 1, "/a")
		drops(t, b, 1)
		acquires(t, b, excl(t, 1, "/a", 0), true, Lock{}, 0, api.ErrInval)
	}
	if b.Clone() != nil {
		t.Error("the copy is a book")
	}
}

// P1: every call ends, for any sessions.
func TestAnySessions(t *testing.T) {
	b := New(0)
	for _, session := range []int{math.MinInt, -1, 0, math.MaxInt} {
		for _, s := range []string{"/", "/a", "/a/b"} {
			for _, wait := range []bool{false, true} {
				b.Acquire(shared(t, session, s, 0), wait)
				b.Acquire(excl(t, session, s, 0), wait)
			}
			b.Find(session, at(t, s))
			b.Release(session, at(t, s))
		}
		b.Drop(session)
	}
}
