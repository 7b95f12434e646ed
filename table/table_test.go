package table

import (
	"math"
	"slices"
	"testing"

	"chatelaine/api"
	"chatelaine/code"
	"chatelaine/locks"
	"chatelaine/path"
)

// put returns what Put appends.
func put(x *Table) string {
	var w code.Writer
	x.Put(&w)
	return w.Text()
}

// rest returns what Put appends, without the last commands of the clients.
func rest(x *Table) string {
	c := x.Clone()
	c.told = nil
	return put(c)
}

// does fails unless the client's next command has this reply, which it is then
// told; if it is an error, nothing else changes.
func does(t *testing.T, x *Table, c Cmd, want Reply) {
	t.Helper()
	seq, _ := x.Told(c.Client)
	c.Seq = seq + 1
	before := rest(x)
	if got := x.Apply(c.Text()); !equal(got, want) {
		t.Fatalf("%v: %v, not %v", c, got, want)
	}
	if seq, reply := x.Told(c.Client); seq != c.Seq || !equal(reply, want) {
		t.Fatalf("%v: told %d, %v", c, seq, reply)
	}
	if want.Err != api.OK && rest(x) != before {
		t.Fatalf("%v: %x before, and now %x", c, before, rest(x))
	}
}

// unchanged fails unless Apply of s returns this reply, and changes nothing.
func unchanged(t *testing.T, x *Table, s string, want Reply) {
	t.Helper()
	before := put(x)
	if got := x.Apply(s); !equal(got, want) {
		t.Fatalf("%x: %v, not %v", s, got, want)
	}
	if put(x) != before {
		t.Fatalf("%x: %x before, and now %x", s, before, put(x))
	}
}

// has fails unless the table has these locks and requests, and this last token.
func has(t *testing.T, x *Table, held, waits []locks.Lock, last uint64) {
	t.Helper()
	b := x.Book()
	if !slices.Equal(b.Held(), held) || !slices.Equal(b.Waits(), waits) || b.Last() != last {
		t.Fatalf("%v, %v, %d; not %v, %v, %d", b.Held(), b.Waits(), b.Last(), held, waits, last)
	}
}

// is fails unless the session belongs to the client and was renewed so often.
func is(t *testing.T, x *Table, n, client, count int) {
	t.Helper()
	if c, k, is := x.Session(n); c != client || k != count || !is {
		t.Fatalf("session %d: %d, %d, %v", n, c, k, is)
	}
}

// isNot fails if there is such a session.
func isNot(t *testing.T, x *Table, n int) {
	t.Helper()
	if c, k, is := x.Session(n); c != 0 || k != 0 || is {
		t.Fatalf("session %d: %d, %d, %v", n, c, k, is)
	}
}

// opened returns a table with the root / and these sessions, the session i+1 for
// the client i.
func opened(t *testing.T, clients ...int) *Table {
	t.Helper()
	x := New(path.Path{}, 0)
	for i, client := range clients {
		does(t, x, Cmd{Kind: Open, Client: client}, Reply{Session: i + 1})
	}
	return x
}

// These return commands.
func acquire(t *testing.T, client, session int, p string, excl, wait bool) Cmd {
	t.Helper()
	return Cmd{Kind: Acquire, Client: client, Session: session, Path: at(t, p), Excl: excl, Wait: wait}
}

func release(t *testing.T, client, session int, p string) Cmd {
	t.Helper()
	return Cmd{Kind: Release, Client: client, Session: session, Path: at(t, p)}
}

func watch(t *testing.T, client, session int, p string) Cmd {
	t.Helper()
	return Cmd{Kind: Watch, Client: client, Session: session, Path: at(t, p)}
}

func drain(client, session int) Cmd { return Cmd{Kind: Drain, Client: client, Session: session} }

func expire(session, count int) string {
	return Cmd{Kind: Expire, Session: session, Count: count}.Text()
}

// P23.1: a new table.
func TestNew(t *testing.T) {
	for _, root := range []string{"/", "/a/b"} {
		for _, last := range []uint64{0, 7, math.MaxUint64} {
			x := New(at(t, root), last)
			if x.Root() != at(t, root) || len(x.Sessions()) != 0 {
				t.Errorf("%v, %v", x.Root(), x.Sessions())
			}
			has(t, x, nil, nil, last)
			for _, n := range []int{math.MinInt, -1, 0, 1, MaxClient, MaxClient + 1, math.MaxInt} {
				isNot(t, x, n)
				if seq, reply := x.Told(n); seq != 0 || !equal(reply, Reply{}) {
					t.Errorf("%d: %d, %v", n, seq, reply)
				}
			}
		}
	}
}

// P23.1: texts that are not commands; nothing changes.
func TestApplyErrors(t *testing.T) {
	x := opened(t, 1)
	unchanged(t, x, "", Reply{})
	for _, c := range []struct {
		s    string
		want api.Errno
	}{
		{"\x02", api.ErrEnd},
		{Cmd{Kind: Keep, Client: 1, Seq: 2, Session: 1}.Text() + "x", api.ErrForm},
		{bytesOf(0, 1, 2, 1, "/", false, false, 0), api.ErrForm},
		{bytesOf(3, 1, 2, 1, "a", false, false, 0), api.ErrForm},
		{bytesOf(9, 1, 2, 1, "/", false, false, 0), api.ErrBig},
		{bytesOf(1, 65, 2, 1, "/", false, false, 0), api.ErrBig},
		{bytesOf(3, 0, 0, 1, "/", false, false, 0), api.ErrRange},
		{bytesOf(3, 1, 0, 1, "/", false, false, 0), api.ErrRange},
		{bytesOf(8, 1, 2, 1, "/", false, false, 0), api.ErrRange},
	} {
		unchanged(t, x, c.s, Reply{Err: c.want})
	}
}

// P23.1: sessions are opened with the next numbers, up to eight of them, also
// several of one client.
func TestOpen(t *testing.T) {
	x := opened(t, 5, 2, 64, 2, 1, 5, 5, 5)
	if got := x.Sessions(); !slices.Equal(got, []int{1, 2, 3, 4, 5, 6, 7, 8}) {
		t.Errorf("%v", got)
	}
	is(t, x, 2, 2, 0)
	is(t, x, 3, 64, 0)
	is(t, x, 8, 5, 0)
	isNot(t, x, 9)
	does(t, x, Cmd{Kind: Open, Client: 3}, Reply{Err: api.ErrFull})
	does(t, x, Cmd{Kind: Close, Client: 64, Session: 3}, Reply{})
	does(t, x, Cmd{Kind: Open, Client: 3}, Reply{Session: 9})
	does(t, x, Cmd{Kind: Open, Client: 3}, Reply{Err: api.ErrFull})
	if got := x.Sessions(); !slices.Equal(got, []int{1, 2, 4, 5, 6, 7, 8, 9}) {
		t.Errorf("%v", got)
	}
	// What the command has besides its kind does not matter.
	does(t, x, Cmd{Kind: Close, Client: 3, Session: 9}, Reply{})
	does(t, x, Cmd{Open, 7, 0, 4, at(t, "/a"), true, true, 9}, Reply{Session: 10})
	is(t, x, 10, 7, 0)
}

// P23.1: no session is opened after the number 2^40.
func TestOpenExhausted(t *testing.T) {
	x := New(path.Path{}, 0)
	x.last = most - 1
	does(t, x, Cmd{Kind: Open, Client: 1}, Reply{Session: most})
	does(t, x, Cmd{Kind: Open, Client: 1}, Reply{Err: api.ErrExhausted})
	does(t, x, Cmd{Kind: Close, Client: 1, Session: most}, Reply{})
	does(t, x, Cmd{Kind: Open, Client: 1}, Reply{Err: api.ErrExhausted})
	// With eight sessions, the lesser error is returned.
	x = New(path.Path{}, 0)
	x.last = most - 8
	for i := range 8 {
		does(t, x, Cmd{Kind: Open, Client: 1}, Reply{Session: most - 7 + i})
	}
	does(t, x, Cmd{Kind: Open, Client: 1}, Reply{Err: api.ErrFull})
}

// P23.1: each command needs a session of its client.
func TestNoSession(t *testing.T) {
	x := opened(t, 1, 2)
	does(t, x, acquire(t, 2, 2, "/a", true, false), Reply{Token: 1})
	for kind := Close; kind <= Drain; kind++ {
		for _, session := range []int{0, 2, 3, most} {
			does(t, x, Cmd{Kind: kind, Client: 1, Session: session, Path: at(t, "/a")}, Reply{Err: api.ErrSession})
			does(t, x, Cmd{Kind: kind, Client: 3, Session: session, Path: at(t, "/a")}, Reply{Err: api.ErrSession})
		}
	}
	does(t, x, Cmd{Kind: Close, Client: 1, Session: 1}, Reply{})
	for kind := Close; kind <= Drain; kind++ {
		does(t, x, Cmd{Kind: kind, Client: 1, Session: 1}, Reply{Err: api.ErrSession})
	}
}

// P23.1: a session is renewed.
func TestKeep(t *testing.T) {
	x := opened(t, 1, 2)
	for i := range 5 {
		does(t, x, Cmd{Kind: Keep, Client: 2, Session: 2, Count: 9}, Reply{Count: i + 1})
		is(t, x, 2, 2, i+1)
		is(t, x, 1, 1, 0)
	}
}

// P23.1: a session that is closed drops its locks and requests.
func TestClose(t *testing.T) {
	x := opened(t, 1, 2)
	does(t, x, acquire(t, 1, 1, "/a", true, false), Reply{Token: 1})
	does(t, x, acquire(t, 2, 2, "/a/b", true, true), Reply{Place: 1})
	does(t, x, acquire(t, 2, 2, "/c", true, true), Reply{Token: 2})
	does(t, x, acquire(t, 1, 1, "/c", true, true), Reply{Place: 2})
	does(t, x, Cmd{Kind: Close, Client: 1, Session: 1}, Reply{})
	isNot(t, x, 1)
	if got := x.Sessions(); !slices.Equal(got, []int{2}) {
		t.Errorf("%v", got)
	}
	held := []locks.Lock{{Session: 2, Path: at(t, "/a/b"), Excl: true, Token: 3}, {Session: 2, Path: at(t, "/c"), Excl: true, Token: 2}}
	has(t, x, held, nil, 3)
}

// P23.1: a session expires only if it was not renewed.
func TestExpire(t *testing.T) {
	x := opened(t, 1, 2)
	does(t, x, acquire(t, 1, 1, "/a", true, false), Reply{Token: 1})
	does(t, x, acquire(t, 2, 2, "/a/b", false, true), Reply{Place: 1})
	does(t, x, Cmd{Kind: Keep, Client: 1, Session: 1}, Reply{Count: 1})
	does(t, x, Cmd{Kind: Keep, Client: 1, Session: 1}, Reply{Count: 2})
	for _, session := range []int{0, 3, most} {
		unchanged(t, x, expire(session, 0), Reply{Err: api.ErrSession})
	}
	for _, count := range []int{0, 1, 3, most} {
		unchanged(t, x, expire(1, count), Reply{Err: api.ErrStale})
	}
	told, _ := x.Told(1)
	if got := x.Apply(expire(1, 2)); !equal(got, Reply{}) {
		t.Errorf("%v", got)
	}
	isNot(t, x, 1)
	is(t, x, 2, 2, 0)
	has(t, x, []locks.Lock{{Session: 2, Path: at(t, "/a/b"), Token: 2}}, nil, 2)
	if n, _ := x.Told(1); n != told {
		t.Errorf("told %d, not %d", n, told)
	}
	unchanged(t, x, expire(1, 2), Reply{Err: api.ErrSession})
}

// P23.1: the example of the chapter.
func TestExample(t *testing.T) {
	x := opened(t, 1)
	does(t, x, acquire(t, 1, 1, "/a", true, false), Reply{Token: 1})
	if got := x.Apply(expire(1, 0)); !equal(got, Reply{}) || len(x.Sessions()) != 0 {
		t.Errorf("%v, %v", got, x.Sessions())
	}
	has(t, x, nil, nil, 1)
}

// P23.1: what Acquire and Release return, and the errors of the book.
func TestLocks(t *testing.T) {
	x := opened(t, 1, 2)
	does(t, x, acquire(t, 1, 1, "/a", false, true), Reply{Token: 1})
	does(t, x, acquire(t, 1, 1, "/a", false, false), Reply{Token: 1})
	does(t, x, acquire(t, 1, 1, "/a", true, true), Reply{Err: api.ErrHeld})
	does(t, x, acquire(t, 2, 2, "/a", false, false), Reply{Token: 2})
	does(t, x, acquire(t, 2, 2, "/a/b", true, false), Reply{Err: api.ErrHeld})
	does(t, x, acquire(t, 2, 2, "/a/b", true, true), Reply{Place: 1})
	does(t, x, acquire(t, 1, 1, "/a/b/c", true, true), Reply{Place: 2})
	does(t, x, acquire(t, 1, 1, "/a/b/c", true, false), Reply{Place: 2})
	does(t, x, release(t, 1, 1, "/c"), Reply{Err: api.ErrNone})
	does(t, x, release(t, 1, 1, "/a/b"), Reply{Err: api.ErrNone})
	does(t, x, release(t, 1, 1, "/a"), Reply{})
	held := []locks.Lock{{Session: 2, Path: at(t, "/a"), Token: 2}, {Session: 2, Path: at(t, "/a/b"), Excl: true, Token: 3}}
	has(t, x, held, []locks.Lock{{Session: 1, Path: at(t, "/a/b/c"), Excl: true}}, 3)
	does(t, x, release(t, 1, 1, "/a/b/c"), Reply{})
	has(t, x, held, nil, 3)
	// Eight locks and requests of a session.
	for i := range 6 {
		does(t, x, acquire(t, 2, 2, "/"+string(rune('m'+i)), true, false), Reply{Token: uint64(4 + i)})
	}
	does(t, x, acquire(t, 2, 2, "/z", true, true), Reply{Err: api.ErrFull})
}

// P23.1 and P23.3: there is no token after the last one.
func TestLastToken(t *testing.T) {
	x := New(path.Path{}, math.MaxUint64-1)
	does(t, x, Cmd{Kind: Open, Client: 1}, Reply{Session: 1})
	does(t, x, Cmd{Kind: Open, Client: 2}, Reply{Session: 2})
	does(t, x, watch(t, 2, 2, "/a"), Reply{})
	does(t, x, acquire(t, 1, 1, "/a", true, true), Reply{Token: math.MaxUint64})
	does(t, x, acquire(t, 1, 1, "/b", true, true), Reply{Err: api.ErrExhausted})
	does(t, x, acquire(t, 2, 2, "/a", true, true), Reply{Place: 1})
	does(t, x, release(t, 1, 1, "/a"), Reply{})
	has(t, x, nil, []locks.Lock{{Session: 2, Path: at(t, "/a"), Excl: true}}, math.MaxUint64)
	does(t, x, drain(2, 2), Reply{Events: []Event{{Granted, at(t, "/a"), 1, math.MaxUint64}, {Released, at(t, "/a"), 1, math.MaxUint64}}})
}

// P23.1: locks and watches are at or below the root.
func TestRoute(t *testing.T) {
	x := New(at(t, "/a/b"), 0)
	does(t, x, Cmd{Kind: Open, Client: 1}, Reply{Session: 1})
	for _, p := range []string{"/", "/a", "/a/bc", "/a/c", "/b", "/b/a/b"} {
		does(t, x, acquire(t, 1, 1, p, true, true), Reply{Err: api.ErrRoute})
		does(t, x, release(t, 1, 1, p), Reply{Err: api.ErrRoute})
		does(t, x, watch(t, 1, 1, p), Reply{Err: api.ErrRoute})
		// With no such session, the lesser error is returned.
		does(t, x, acquire(t, 1, 2, p, true, true), Reply{Err: api.ErrRoute})
		does(t, x, watch(t, 2, 1, p), Reply{Err: api.ErrRoute})
		does(t, x, Cmd{Kind: Keep, Client: 1, Session: 2, Path: at(t, p)}, Reply{Err: api.ErrSession})
	}
	does(t, x, watch(t, 1, 1, "/a/b"), Reply{})
	does(t, x, acquire(t, 1, 1, "/a/b", true, true), Reply{Token: 1})
	does(t, x, acquire(t, 1, 1, "/a/b/c", true, true), Reply{Token: 2})
	does(t, x, release(t, 1, 1, "/a/b"), Reply{})
	// The path of any other command does not matter.
	does(t, x, Cmd{Kind: Open, Client: 2, Path: at(t, "/c")}, Reply{Session: 2})
	does(t, x, Cmd{Kind: Keep, Client: 1, Session: 1, Path: at(t, "/c")}, Reply{Count: 1})
	does(t, x, Cmd{Kind: Drain, Client: 2, Session: 2, Path: at(t, "/c")}, Reply{})
	does(t, x, Cmd{Kind: Close, Client: 2, Session: 2, Path: at(t, "/c")}, Reply{})
	if got := x.Apply(Cmd{Kind: Expire, Session: 1, Count: 1, Path: at(t, "/c")}.Text()); !equal(got, Reply{}) {
		t.Errorf("%v", got)
	}
}

// P23.1: a session watches at most eight paths.
func TestWatch(t *testing.T) {
	x := opened(t, 1, 2)
	for _, p := range []string{"/h", "/a", "/d", "/a/b", "/", "/c", "/a-b", "/f"} {
		does(t, x, watch(t, 1, 1, p), Reply{})
		does(t, x, watch(t, 1, 1, p), Reply{})
	}
	before := rest(x)
	does(t, x, watch(t, 1, 1, "/i"), Reply{Err: api.ErrFull})
	for _, p := range []string{"/", "/a", "/a/b", "/a-b", "/h"} {
		does(t, x, watch(t, 1, 1, p), Reply{})
	}
	if rest(x) != before {
		t.Errorf("%x before, and now %x", before, rest(x))
	}
	does(t, x, watch(t, 2, 2, "/i"), Reply{})
}

// P23.1: a session hears of each lock whose path it watches, also of its own.
func TestEvents(t *testing.T) {
	x := opened(t, 1, 2, 3)
	does(t, x, watch(t, 1, 1, "/a"), Reply{})
	does(t, x, watch(t, 2, 2, "/a"), Reply{})
	does(t, x, watch(t, 2, 2, "/a/b"), Reply{})
	a, b := at(t, "/a"), at(t, "/a/b")
	does(t, x, acquire(t, 1, 1, "/a", true, false), Reply{Token: 1})
	does(t, x, acquire(t, 1, 1, "/a", true, false), Reply{Token: 1}) // no event
	does(t, x, acquire(t, 1, 1, "/a/b/c", true, false), Reply{Token: 2})
	does(t, x, acquire(t, 2, 2, "/a/b", false, true), Reply{Place: 1})
	does(t, x, acquire(t, 2, 2, "/a/b", false, true), Reply{Place: 1})
	does(t, x, acquire(t, 3, 3, "/a", false, true), Reply{Place: 2})
	does(t, x, drain(1, 1), Reply{Events: []Event{{Granted, a, 1, 1}}})
	does(t, x, drain(3, 3), Reply{})
	does(t, x, release(t, 1, 1, "/a/b/c"), Reply{})
	does(t, x, release(t, 1, 1, "/a"), Reply{})
	does(t, x, drain(1, 1), Reply{Events: []Event{{Released, a, 1, 1}, {Granted, a, 3, 4}}})
	does(t, x, drain(1, 1), Reply{})
	does(t, x, drain(2, 2), Reply{Events: []Event{{Granted, a, 1, 1}, {Released, a, 1, 1}, {Granted, b, 2, 3}, {Granted, a, 3, 4}}})
	does(t, x, drain(2, 2), Reply{})
}

// P23.1: a request that is given up is not an event, but what is granted as a
// result is one.
func TestEventsOfRequests(t *testing.T) {
	x := opened(t, 1, 2, 3)
	does(t, x, watch(t, 1, 1, "/a"), Reply{})
	does(t, x, acquire(t, 1, 1, "/a", false, false), Reply{Token: 1})
	does(t, x, acquire(t, 2, 2, "/a", true, true), Reply{Place: 1})
	does(t, x, acquire(t, 3, 3, "/a", false, true), Reply{Place: 2})
	does(t, x, release(t, 2, 2, "/a"), Reply{})
	a := at(t, "/a")
	does(t, x, drain(1, 1), Reply{Events: []Event{{Granted, a, 1, 1}, {Granted, a, 3, 2}}})
	does(t, x, acquire(t, 2, 2, "/a", true, true), Reply{Place: 1})
	does(t, x, Cmd{Kind: Close, Client: 2, Session: 2}, Reply{})
	does(t, x, drain(1, 1), Reply{})
}

// P23.1: when a session is removed, first its locks are given up, in the order
// of Held, and then others are granted. It hears of none itself.
func TestEventsOfRemoval(t *testing.T) {
	for _, expires := range []bool{false, true} {
		x := opened(t, 1, 2, 3)
		for _, p := range []string{"/b", "/a", "/a/b", "/a-b"} {
			does(t, x, watch(t, 2, 2, p), Reply{})
			does(t, x, watch(t, 1, 1, p), Reply{})
		}
		does(t, x, acquire(t, 1, 1, "/b", true, false), Reply{Token: 1})
		does(t, x, acquire(t, 1, 1, "/a-b", true, false), Reply{Token: 2})
		does(t, x, acquire(t, 1, 1, "/a/b", true, false), Reply{Token: 3})
		does(t, x, acquire(t, 1, 1, "/a", true, false), Reply{Token: 4})
		does(t, x, acquire(t, 3, 3, "/a-b", true, true), Reply{Place: 1})
		does(t, x, acquire(t, 2, 2, "/a/b", true, true), Reply{Place: 2})
		a, b, c, d := at(t, "/a"), at(t, "/a/b"), at(t, "/a-b"), at(t, "/b")
		does(t, x, drain(2, 2), Reply{Events: []Event{{Granted, d, 1, 1}, {Granted, c, 1, 2}, {Granted, b, 1, 3}, {Granted, a, 1, 4}}})
		if expires {
			if got := x.Apply(expire(1, 0)); !equal(got, Reply{}) {
				t.Fatalf("%v", got)
			}
		} else {
			does(t, x, Cmd{Kind: Close, Client: 1, Session: 1}, Reply{})
		}
		does(t, x, drain(2, 2), Reply{Events: []Event{
			{Released, a, 1, 4}, {Released, b, 1, 3}, {Released, c, 1, 2}, {Released, d, 1, 1},
			{Granted, c, 3, 5}, {Granted, b, 2, 6},
		}})
	}
}

// P23.1: a session has at most eight events, and learns that others were lost.
func TestLost(t *testing.T) {
	x := opened(t, 1, 2)
	does(t, x, watch(t, 2, 2, "/a"), Reply{})
	var l []Event
	for i := range 4 {
		token := uint64(i + 1)
		does(t, x, acquire(t, 1, 1, "/a", true, false), Reply{Token: token})
		does(t, x, release(t, 1, 1, "/a"), Reply{})
		l = append(l, Event{Granted, at(t, "/a"), 1, token}, Event{Released, at(t, "/a"), 1, token})
	}
	full := x.Clone()
	does(t, full, drain(2, 2), Reply{Events: l})
	does(t, x, acquire(t, 1, 1, "/b", true, false), Reply{Token: 5})
	does(t, x.Clone(), drain(2, 2), Reply{Events: l}) // that one was not for it
	does(t, x, acquire(t, 1, 1, "/a", true, false), Reply{Token: 6})
	does(t, x, drain(2, 2), Reply{Events: l, Lost: true})
	does(t, x, drain(2, 2), Reply{})
	does(t, x, release(t, 1, 1, "/a"), Reply{})
	does(t, x, drain(2, 2), Reply{Events: []Event{{Released, at(t, "/a"), 1, 6}}})
}

// P23.2: a command that is repeated changes nothing and receives the same reply,
// whatever has happened since; an older one changes nothing.
func TestOnce(t *testing.T) {
	x := opened(t, 1, 2)
	does(t, x, watch(t, 1, 1, "/a"), Reply{})
	for _, c := range []struct {
		c    Cmd
		want Reply
	}{
		{Cmd{Kind: Open, Client: 1}, Reply{Session: 3}},
		{Cmd{Kind: Keep, Client: 1, Session: 1}, Reply{Count: 1}},
		{acquire(t, 1, 1, "/a", true, false), Reply{Token: 1}},
		{acquire(t, 1, 1, "/a", false, false), Reply{Err: api.ErrHeld}},
		{drain(1, 1), Reply{Events: []Event{{Granted, at(t, "/a"), 1, 1}}}},
		{release(t, 1, 1, "/a"), Reply{}},
		{release(t, 1, 1, "/a"), Reply{Err: api.ErrNone}},
		{drain(1, 1), Reply{Events: []Event{{Released, at(t, "/a"), 1, 1}}}},
		{Cmd{Kind: Close, Client: 1, Session: 1}, Reply{}},
	} {
		does(t, x, c.c, c.want)
		c.c.Seq, _ = x.Told(1)
		unchanged(t, x, c.c.Text(), c.want)
		does(t, x, Cmd{Kind: Keep, Client: 2, Session: 2}, Reply{Count: 1 + count(x, 2)})
		unchanged(t, x, c.c.Text(), c.want)
		other := Cmd{Kind: Open, Client: 1, Seq: c.c.Seq} // only the number counts
		unchanged(t, x, other.Text(), c.want)
		for older := 1; older < c.c.Seq; older++ {
			c.c.Seq = older
			unchanged(t, x, c.c.Text(), Reply{Err: api.ErrStale})
		}
	}
	// Numbers may be left out.
	far := Cmd{Kind: Open, Client: 1, Seq: most}
	if got := x.Apply(far.Text()); !equal(got, Reply{Session: 4}) {
		t.Errorf("%v", got)
	}
	unchanged(t, x, far.Text(), Reply{Session: 4})
	far.Seq--
	unchanged(t, x, far.Text(), Reply{Err: api.ErrStale})
	does(t, x, Cmd{Kind: Keep, Client: 2, Session: 2}, Reply{Count: 1 + count(x, 2)})
}

// count returns how often a session was renewed.
func count(x *Table, n int) int {
	_, c, _ := x.Session(n)
	return c
}

// P23.2: an error is told again, also when the command would succeed now.
func TestOnceAfterAnError(t *testing.T) {
	x := opened(t, 1, 2)
	does(t, x, acquire(t, 1, 1, "/a", true, false), Reply{Token: 1})
	c := acquire(t, 2, 2, "/a", true, false)
	does(t, x, c, Reply{Err: api.ErrHeld})
	does(t, x, release(t, 1, 1, "/a"), Reply{})
	c.Seq, _ = x.Told(2)
	unchanged(t, x, c.Text(), Reply{Err: api.ErrHeld})
	does(t, x, c, Reply{Token: 2})
	// Stale commands and texts that are none are not told.
	x.Apply("x")
	c.Seq = 1
	unchanged(t, x, c.Text(), Reply{Err: api.ErrStale})
	if n, got := x.Told(2); n != 3 || !equal(got, Reply{Token: 2}) {
		t.Errorf("%d, %v", n, got)
	}
}

// P23.1: what each of the 64 clients was told.
func TestTold(t *testing.T) {
	x := New(path.Path{}, 0)
	for i := range MaxClient {
		client := (i*27)%MaxClient + 1
		c := Cmd{Kind: Open, Client: client, Seq: i + 1}
		want := Reply{Session: i + 1}
		if i >= 8 {
			want = Reply{Err: api.ErrFull}
		}
		if got := x.Apply(c.Text()); !equal(got, want) {
			t.Fatalf("%v: %v", c, got)
		}
	}
	for i := range MaxClient {
		n, got := x.Told((i*27)%MaxClient + 1)
		if n != i+1 || got.Err == api.OK && got.Session != i+1 || (got.Err == api.OK) != (i < 8) {
			t.Errorf("%d, %v", n, got)
		}
	}
	for _, client := range []int{math.MinInt, -1, 0, MaxClient + 1, math.MaxInt} {
		if n, got := x.Told(client); n != 0 || !equal(got, Reply{}) {
			t.Errorf("%d: %d, %v", client, n, got)
		}
	}
}

// Rule 5: results share no memory with the table, nor with each other.
func TestMemory(t *testing.T) {
	x := opened(t, 1)
	does(t, x, watch(t, 1, 1, "/a"), Reply{})
	does(t, x, acquire(t, 1, 1, "/a", true, false), Reply{Token: 1})
	c := drain(1, 1)
	c.Seq = 4
	want := Reply{Events: []Event{{Granted, at(t, "/a"), 1, 1}}}
	for range 3 {
		got := x.Apply(c.Text())
		if !equal(got, want) {
			t.Errorf("%v", got)
		}
		got.Events[0] = Event{}
		if _, got = x.Told(1); !equal(got, want) {
			t.Errorf("told %v", got)
		}
		got.Events[0].Token++
	}
	x.Sessions()[0] = 9
	if got := x.Sessions(); !slices.Equal(got, []int{1}) {
		t.Errorf("%v", got)
	}
	b := x.Book()
	b.Drop(1)
	has(t, x, []locks.Lock{{Session: 1, Path: at(t, "/a"), Excl: true, Token: 1}}, nil, 1)
	does(t, x, release(t, 1, 1, "/a"), Reply{})
	if len(b.Held()) != 0 || b.Last() != 1 {
		t.Errorf("%v", b)
	}
}

// P23.1: a copy is independent.
func TestClone(t *testing.T) {
	x := opened(t, 1, 2)
	does(t, x, watch(t, 1, 1, "/a"), Reply{})
	does(t, x, watch(t, 1, 1, "/c"), Reply{})
	does(t, x, acquire(t, 2, 2, "/a", true, false), Reply{Token: 1})
	does(t, x, acquire(t, 1, 1, "/a", true, true), Reply{Place: 1})
	before := put(x)
	for _, c := range []Cmd{
		watch(t, 1, 1, "/b"), drain(1, 1), release(t, 2, 2, "/a"), acquire(t, 1, 1, "/c", false, true),
		{Kind: Keep, Client: 1, Session: 1}, {Kind: Open, Client: 3}, {Kind: Close, Client: 1, Session: 1},
	} {
		y := x.Clone()
		if put(y) != before {
			t.Fatalf("%x, not %x", put(y), before)
		}
		n, _ := y.Told(c.Client)
		c.Seq = n + 1
		y.Apply(c.Text())
		if put(x) != before || put(y) == before {
			t.Errorf("%v: %x, %x", c, put(x), put(y))
		}
		z := x.Clone()
		z.Apply(c.Text())
		if put(z) != put(y) {
			t.Errorf("%v: %x, not %x", c, put(z), put(y))
		}
	}
	y := x.Clone()
	y.sessions[0].watches[0], y.sessions[0].events[0] = path.Path{}, Event{}
	y.told[0].reply.Err = api.ErrInval
	if put(x) != before {
		t.Errorf("%x", put(x))
	}
	does(t, x, drain(1, 1), Reply{Events: []Event{{Granted, at(t, "/a"), 2, 1}}})
	before = put(x)
	x.Clone().told[0].reply.Events[0] = Event{}
	if put(x) != before {
		t.Errorf("%x", put(x))
	}
}

// Rule 1: the table that Get returns with an error has no content, and refuses
// commands.
func TestNil(t *testing.T) {
	x := Get(code.Read(""))
	if x != nil || x.Clone() != nil || x.Root() != (path.Path{}) || len(x.Sessions()) != 0 {
		t.Fatalf("%v", x)
	}
	isNot(t, x, 1)
	has(t, x, nil, nil, 0)
	unchanged(t, x, "", Reply{})
	unchanged(t, x, Cmd{Kind: Open, Client: 1, Seq: 1}.Text(), Reply{Err: api.ErrInval})
	unchanged(t, x, "x", Reply{Err: api.ErrInval})
	if n, got := x.Told(1); n != 0 || !equal(got, Reply{}) {
		t.Errorf("%d, %v", n, got)
	}
}
