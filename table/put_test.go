package table

import (
	"math"
	"strings"
	"testing"

	"chatelaine/api"
	"chatelaine/code"
)

// These are the fields of the bytes of a table, with the paths as texts.
type rawEvent struct {
	kind    int
	path    string
	session int
	token   uint64
}

type rawSession struct {
	number, client, count int
	watches               []string
	events                []rawEvent
	lost                  bool
}

type rawLock struct {
	session int
	path    string
	excl    bool
	token   uint64
}

type rawReply struct {
	err, session int
	token        uint64
	place, count int
	events       []rawEvent
	lost         bool
}

type rawTold struct {
	client, seq int
	reply       rawReply
}

type raw struct {
	root     string
	token    uint64
	last     int
	sessions []rawSession
	held     []rawLock
	waits    []rawLock
	told     []rawTold
}

// rawEvents returns the fields of events.
func rawEvents(l []Event) []rawEvent {
	var r []rawEvent
	for _, e := range l {
		r = append(r, rawEvent{e.Kind, e.Path.Text(), e.Session, e.Token})
	}
	return r
}

// rawOf returns the fields of a reply.
func rawOf(x Reply) rawReply {
	return rawReply{int(x.Err), x.Session, x.Token, x.Place, x.Count, rawEvents(x.Events), x.Lost}
}

// putRaw appends events.
func putRaw(w *code.Writer, l []rawEvent) {
	w.N(len(l))
	for _, e := range l {
		w.N(e.kind).S(e.path).N(e.session).U(e.token)
	}
}

// text returns the bytes.
func (x raw) text() string {
	w := new(code.Writer).S(x.root).U(x.token).N(x.last, len(x.sessions))
	for _, s := range x.sessions {
		w.N(s.number, s.client, s.count, len(s.watches)).S(s.watches...)
		putRaw(w, s.events)
		w.B(s.lost)
	}
	w.N(len(x.held))
	for _, l := range x.held {
		w.N(l.session).S(l.path).B(l.excl).U(l.token)
	}
	w.N(len(x.waits))
	for _, l := range x.waits {
		w.N(l.session).S(l.path).B(l.excl)
	}
	w.N(len(x.told))
	for _, a := range x.told {
		w.N(a.client, a.seq, a.reply.err, a.reply.session).U(a.reply.token).N(a.reply.place, a.reply.count)
		putRaw(w, a.reply.events)
		w.B(a.reply.lost)
	}
	return w.Text()
}

// get returns what Get reads from all of s.
func get(t *testing.T, s string) *Table {
	t.Helper()
	r := code.Read(s)
	x := Get(r)
	if e := r.Done(); x == nil || e != api.OK {
		t.Fatalf("%x: %v, %d", s, x, e)
	}
	return x
}

// fails fails unless Get of s returns the error e, and again afterwards.
func fails(t *testing.T, name, s string, e api.Errno) {
	t.Helper()
	r := code.Read(s)
	for range 2 {
		if x := Get(r); x != nil || r.Err() != e {
			t.Errorf("%s: %v, %d, not %d", name, x, r.Err(), e)
		}
	}
}

// some returns a table in which everything occurs, and its fields.
func some(t *testing.T) (*Table, raw) {
	t.Helper()
	x := New(at(t, "/a"), 40)
	for i, client := range []int{7, 2, 64, 2} {
		does(t, x, Cmd{Kind: Open, Client: client}, Reply{Session: i + 1})
	}
	does(t, x, Cmd{Kind: Close, Client: 2, Session: 2}, Reply{})
	does(t, x, Cmd{Kind: Keep, Client: 7, Session: 1}, Reply{Count: 1})
	does(t, x, watch(t, 7, 1, "/a/y"), Reply{})
	does(t, x, watch(t, 7, 1, "/a"), Reply{})
	does(t, x, watch(t, 7, 1, "/a/x"), Reply{})
	does(t, x, watch(t, 64, 3, "/a/y"), Reply{})
	does(t, x, acquire(t, 7, 1, "/a/y", false, false), Reply{Token: 41})
	does(t, x, acquire(t, 64, 3, "/a/y", false, false), Reply{Token: 42})
	does(t, x, acquire(t, 2, 4, "/a/x", true, false), Reply{Token: 43})
	does(t, x, acquire(t, 7, 1, "/a/x/z", false, true), Reply{Place: 1})
	does(t, x, acquire(t, 64, 3, "/a", true, true), Reply{Place: 2})
	does(t, x, drain(7, 1), Reply{Events: []Event{{Granted, at(t, "/a/y"), 1, 41}, {Granted, at(t, "/a/y"), 3, 42}, {Granted, at(t, "/a/x"), 4, 43}}})
	does(t, x, acquire(t, 64, 3, "/a/x", true, false), Reply{Err: api.ErrHeld})
	one, two, three := rawEvent{1, "/a/y", 1, 41}, rawEvent{1, "/a/y", 3, 42}, rawEvent{1, "/a/x", 4, 43}
	return x, raw{
		root: "/a", token: 43, last: 4,
		sessions: []rawSession{
			{number: 1, client: 7, count: 1, watches: []string{"/a", "/a/x", "/a/y"}},
			{number: 3, client: 64, watches: []string{"/a/y"}, events: []rawEvent{one, two}},
			{number: 4, client: 2},
		},
		held:  []rawLock{{4, "/a/x", true, 43}, {1, "/a/y", false, 41}, {3, "/a/y", false, 42}},
		waits: []rawLock{{1, "/a/x/z", false, 0}, {3, "/a", true, 0}},
		told: []rawTold{
			{2, 4, rawReply{token: 43}},
			{7, 8, rawReply{events: []rawEvent{one, two, three}}},
			{64, 5, rawReply{err: 16}},
		},
	}
}

// overrun returns a table with a session that has lost events, and its fields.
func overrun(t *testing.T) (*Table, raw) {
	t.Helper()
	x := opened(t, 5)
	does(t, x, watch(t, 5, 1, "/b"), Reply{})
	want := raw{root: "/", token: 5, last: 1, sessions: []rawSession{{number: 1, client: 5, watches: []string{"/b"}, lost: true}}}
	s := &want.sessions[0]
	for i := range uint64(5) {
		does(t, x, acquire(t, 5, 1, "/b", i%2 == 0, false), Reply{Token: i + 1})
		does(t, x, release(t, 5, 1, "/b"), Reply{})
		if i < 4 {
			s.events = append(s.events, rawEvent{1, "/b", 1, i + 1}, rawEvent{2, "/b", 1, i + 1})
		}
	}
	want.told = []rawTold{{5, 12, rawReply{}}}
	return x, want
}

// P23.4: the bytes of a table, after what was appended before.
func TestPut(t *testing.T) {
	if got := put(New(at(t, "/"), 0)); got != "\x01/\x00\x00\x00\x00\x00\x00" {
		t.Errorf("%x", got)
	}
	if got := put(New(at(t, "/a"), 300)); got != "\x02/a\xfc\x01\x2c\x00\x00\x00\x00\x00" {
		t.Errorf("%x", got)
	}
	for _, f := range []func(t *testing.T) (*Table, raw){some, overrun} {
		x, want := f(t)
		if got := put(x); got != want.text() {
			t.Errorf("%x, not %x", got, want.text())
		}
		var w code.Writer
		x.Put(w.U(7))
		x.Put(&w)
		if got := w.Text(); got != "\x07"+want.text()+want.text() {
			t.Errorf("%x", got)
		}
	}
}

// P23.4: Get returns what was put, and reads no more than that.
func TestGet(t *testing.T) {
	one, _ := some(t)
	two, _ := overrun(t)
	l := []*Table{one, New(at(t, longPath), math.MaxUint64), two, opened(t, 1, 1, 2)}
	var w code.Writer
	for _, x := range l {
		x.Put(&w)
	}
	r := code.Read(w.Text())
	for _, x := range l {
		y := Get(r)
		if y == nil || r.Err() != api.OK || put(y) != put(x) || y.Root() != x.Root() {
			t.Fatalf("%v: %d", y, r.Err())
		}
	}
	if e := r.Done(); e != api.OK {
		t.Errorf("at the end: %d", e)
	}
}

// P23.4: with bytes missing there is no table, and an error that the reader has
// already is kept.
func TestGetOfLess(t *testing.T) {
	for _, f := range []func(t *testing.T) (*Table, raw){some, overrun} {
		_, x := f(t)
		s := x.text()
		for n := range s {
			fails(t, "less", s[:n], api.ErrEnd)
		}
		r := code.Read(s)
		r.Fail(api.ErrSum)
		if y := Get(r); y != nil || r.Err() != api.ErrSum {
			t.Errorf("%v, %d", y, r.Err())
		}
	}
}

// change is a change of the fields of a table.
type change struct {
	name string
	do   func(x *raw)
}

// changed returns the bytes of a table in which everything occurs, or which has
// lost events, after a change.
func (c change) changed(t *testing.T, f func(t *testing.T) (*Table, raw)) string {
	t.Helper()
	_, x := f(t)
	c.do(&x)
	return x.text()
}

// many returns n copies of x.
func many[T any](n int, x T) []T {
	l := make([]T, n)
	for i := range l {
		l[i] = x
	}
	return l
}

// P23.4: the greatest numbers, and other tables that are permitted.
func TestGetPermits(t *testing.T) {
	for _, c := range []change{
		{"nothing", func(x *raw) {}},
		{"another root", func(x *raw) { x.root = "/" }},
		{"the last session", func(x *raw) { x.last = most }},
		{"the last token", func(x *raw) { x.token = math.MaxUint64 }},
		{"a great number", func(x *raw) { x.last, x.sessions[2].number, x.held[0].session = most, most, most }},
		{"the client 1", func(x *raw) { x.sessions[0].client = 1 }},
		{"a great count", func(x *raw) { x.sessions[0].count = most }},
		{"eight watches", func(x *raw) {
			x.sessions[0].watches = []string{"/a", "/a/b", "/a/b/c", "/a/b-", "/a/d", "/a/e", "/a/f", "/a/g"}
		}},
		{"eight events", func(x *raw) { x.sessions[1].events = many(8, x.sessions[1].events[0]) }},
		{"a released lock", func(x *raw) { x.sessions[1].events[0].kind = 2 }},
		{"an event of an old session", func(x *raw) { x.sessions[1].events[0].session = 2 }},
		{"the event of the root", func(x *raw) { x.sessions[1].watches[0], x.sessions[1].events = "/a", many(1, rawEvent{1, "/a", 4, 43}) }},
		{"the last one's event", func(x *raw) { x.sessions[1].events[0].session, x.sessions[1].events[0].token = 4, 43 }},
		{"no tellings", func(x *raw) { x.told = nil }},
		{"a great seq", func(x *raw) { x.told[0].client, x.told[0].seq = 1, most }},
		{"the first one", func(x *raw) { x.told[0].client, x.told[0].seq = 1, 1 }},
		{"any reply", func(x *raw) { x.told[0].reply = rawReply{0, 4, 43, 8, most, x.told[1].reply.events, false} }},
		{"any error", func(x *raw) { x.told[0].reply = rawReply{err: 22} }},
		{"no waits", func(x *raw) { x.waits = nil }},
		{"no locks", func(x *raw) { x.waits, x.held = nil, nil }},
		{"only numbers", func(x *raw) { *x = raw{root: "/", last: most} }},
	} {
		s := c.changed(t, some)
		r := code.Read(s)
		if x := Get(r); x == nil || r.Done() != api.OK || put(x) != s {
			t.Errorf("%s: %d", c.name, r.Err())
		}
	}
	for _, c := range []change{
		{"nothing", func(x *raw) {}},
		{"not lost", func(x *raw) { x.sessions[0].lost = false }},
		{"told", func(x *raw) { x.told[0].reply.events, x.told[0].reply.lost = x.sessions[0].events, true }},
		{"told, not lost", func(x *raw) { x.told[0].reply.events = x.sessions[0].events }},
	} {
		if s := c.changed(t, overrun); put(get(t, s)) != s {
			t.Errorf("%s: %x", c.name, s)
		}
	}
}

// P23.4: numbers and texts beyond their limits.
func TestGetLimits(t *testing.T) {
	long := strings.Repeat("x", 121)
	for _, c := range []change{
		{"root", func(x *raw) { x.root = long }},
		{"last session", func(x *raw) { x.last = most + 1 }},
		{"nine sessions", func(x *raw) {
			x.last = 9
			for n := range 9 {
				x.sessions = append(x.sessions[:n], rawSession{number: n + 1, client: 1})
			}
		}},
		{"session", func(x *raw) { x.last, x.sessions[2].number = most, most+1 }},
		{"client", func(x *raw) { x.sessions[0].client = MaxClient + 1 }},
		{"count", func(x *raw) { x.sessions[0].count = most + 1 }},
		{"watch", func(x *raw) { x.sessions[0].watches[0] = long }},
		{"nine watches", func(x *raw) {
			x.sessions[0].watches = []string{"/a/a", "/a/b", "/a/c", "/a/d", "/a/e", "/a/f", "/a/g", "/a/h", "/a/i"}
		}},
		{"nine events", func(x *raw) { x.sessions[1].events = many(9, x.sessions[1].events[0]) }},
		{"event's kind", func(x *raw) { x.sessions[1].events[0].kind = 3 }},
		{"event's path", func(x *raw) { x.sessions[1].events[0].path = long }},
		{"event's session", func(x *raw) { x.last, x.sessions[1].events[0].session = most, most+1 }},
		{"65 locks", func(x *raw) { x.held = many(65, x.held[0]) }},
		{"lock's path", func(x *raw) { x.held[0].path = long }},
		{"lock's session", func(x *raw) { x.held[0].session = most + 1 }},
		{"nine requests", func(x *raw) { x.waits = many(9, x.waits[0]) }},
		{"request's path", func(x *raw) { x.waits[0].path = long }},
		{"request's session", func(x *raw) { x.waits[0].session = most + 1 }},
		{"65 clients", func(x *raw) { x.told = many(65, x.told[0]) }},
		{"told client", func(x *raw) { x.told[2].client = MaxClient + 1 }},
		{"seq", func(x *raw) { x.told[0].seq = most + 1 }},
		{"err", func(x *raw) { x.told[0].reply = rawReply{err: 23} }},
		{"place", func(x *raw) { x.told[0].reply.place = 9 }},
		{"reply's session", func(x *raw) { x.last, x.told[0].reply.session = most, most+1 }},
		{"reply's count", func(x *raw) { x.told[0].reply.count = most + 1 }},
		{"reply's events", func(x *raw) { x.told[0].reply.events = many(9, x.told[1].reply.events[0]) }},
	} {
		fails(t, c.name, c.changed(t, some), api.ErrBig)
	}
}

// P23.4: sessions that are not in order or not permitted.
func TestGetSessions(t *testing.T) {
	for _, c := range []change{
		{"no root", func(x *raw) { x.root = "" }},
		{"no path", func(x *raw) { x.root = "/a/" }},
		{"a long text", func(x *raw) { x.root = strings.Repeat("/", 120) }},
		{"session 0", func(x *raw) { x.sessions[0].number, x.held, x.waits = 0, nil, nil }},
		{"session 0 alone", func(x *raw) { *x = raw{root: "/", last: 4, sessions: []rawSession{{number: 0, client: 1}}} }},
		{"above the last one", func(x *raw) { x.last = 3 }},
		{"none was opened", func(x *raw) { *x = raw{root: "/", sessions: []rawSession{{number: 1, client: 1}}} }},
		{"twice", func(x *raw) { x.sessions[1].number, x.held, x.waits = 1, nil, nil }},
		{"not ascending", func(x *raw) { x.sessions[0], x.sessions[1] = x.sessions[1], x.sessions[0] }},
		{"not ascending later", func(x *raw) { x.sessions[1], x.sessions[2] = x.sessions[2], x.sessions[1] }},
		{"client 0", func(x *raw) { x.sessions[2].client = 0 }},
		{"watches twice", func(x *raw) { x.sessions[0].watches[1] = "/a" }},
		{"watches not ascending", func(x *raw) { x.sessions[0].watches = []string{"/a/x", "/a"} }},
		{"in the order of the bytes", func(x *raw) { x.sessions[0].watches = []string{"/a/b-", "/a/b/c"} }},
		{"watches later not ascending", func(x *raw) { x.sessions[0].watches = []string{"/a", "/a/y", "/a/x"} }},
		{"watch no path", func(x *raw) { x.sessions[0].watches[0] = "a" }},
		{"watch empty", func(x *raw) { x.sessions[0].watches[0] = "" }},
		{"watch above the root", func(x *raw) { x.sessions[0].watches[0] = "/" }},
		{"watch beside the root", func(x *raw) { x.sessions[0].watches[2] = "/ab" }},
		{"event of kind 0", func(x *raw) { x.sessions[1].events[0].kind = 0 }},
		{"event no path", func(x *raw) { x.sessions[1].events[1].path = "/a//" }},
		{"event beside the root", func(x *raw) { x.sessions[1].events[1].path = "/b" }},
		{"event not watched", func(x *raw) { x.sessions[1].events[1].path = "/a/x" }},
		{"event of no session", func(x *raw) { x.sessions[1].events[1].session = 0 }},
		{"event of a later session", func(x *raw) { x.sessions[1].events[0].session = 5 }},
		{"event without a token", func(x *raw) { x.sessions[1].events[0].token = 0 }},
		{"event with a later token", func(x *raw) { x.sessions[1].events[1].token = 44 }},
		{"lost none", func(x *raw) { x.sessions[0].lost = true }},
		{"lost with room", func(x *raw) { x.sessions[1].events, x.sessions[1].lost = many(7, x.sessions[1].events[0]), true }},
	} {
		fails(t, c.name, c.changed(t, some), api.ErrForm)
	}
}

// P23.4: locks and requests that are not in order or not permitted.
func TestGetLocks(t *testing.T) {
	for _, c := range []change{
		{"lock of no session", func(x *raw) { x.held[0].session = 2 }},
		{"lock of session 0", func(x *raw) { x.held[0].session = 0 }},
		{"lock of a later session", func(x *raw) { x.held[0].session = 5 }},
		{"a session less", func(x *raw) { x.sessions = x.sessions[:2] }},
		{"lock no path", func(x *raw) { x.held[0].path = "/a/X" }},
		{"lock above the root", func(x *raw) { x.held, x.waits = many(1, rawLock{4, "/", true, 43}), nil }},
		{"lock beside the root", func(x *raw) { x.held[2].path = "/b" }},
		{"other order", func(x *raw) { x.held[0], x.held[1] = x.held[1], x.held[0] }},
		{"other order of sessions", func(x *raw) { x.held[1], x.held[2] = x.held[2], x.held[1] }},
		{"twice", func(x *raw) { x.held[2].session = 1 }},
		{"no token", func(x *raw) { x.held[0].token = 0 }},
		{"a later token", func(x *raw) { x.token = 42 }},
		{"a token twice", func(x *raw) { x.held[0].token = 41 }},
		{"conflict", func(x *raw) { x.held[2].excl = true }},
		{"request of no session", func(x *raw) { x.waits[0].session = 2 }},
		{"request of session 0", func(x *raw) { x.waits[0].session = 0 }},
		{"request of a later session", func(x *raw) { x.waits[1].session = 5 }},
		{"request no path", func(x *raw) { x.waits[0].path = "" }},
		{"request above the root", func(x *raw) { x.waits[1].path = "/" }},
		{"request beside the root", func(x *raw) { x.waits[0].path = "/ax" }},
		{"request twice", func(x *raw) { x.waits[1] = x.waits[0] }},
		{"request for what it holds", func(x *raw) { x.waits[1].path = "/a/y" }},
		{"request that can be granted", func(x *raw) { x.waits[0].session = 4 }},
		{"request without a lock", func(x *raw) { x.held = x.held[1:] }},
		{"nine of a session", func(x *raw) {
			x.held, x.waits = nil, nil
			for i := range 9 {
				x.held = append(x.held, rawLock{1, "/a/" + string(rune('a'+i)), true, uint64(i + 1)})
			}
		}},
	} {
		fails(t, c.name, c.changed(t, some), api.ErrForm)
	}
	eight := change{"eight of a session", func(x *raw) {
		x.held, x.waits = nil, nil
		for i := range 8 {
			x.held = append(x.held, rawLock{1, "/a/" + string(rune('a'+i)), true, uint64(i + 1)})
		}
	}}
	get(t, eight.changed(t, some))
}

// P23.4: last commands that are not in order or not permitted.
func TestGetTold(t *testing.T) {
	reply := func(x rawReply) func(x *raw) {
		return func(y *raw) { y.told[1].reply = x }
	}
	event := rawEvent{2, "/a/x", 2, 43}
	for _, c := range []change{
		{"client 0", func(x *raw) { x.told[0].client = 0 }},
		{"twice", func(x *raw) { x.told[1].client = 2 }},
		{"not ascending", func(x *raw) { x.told[1], x.told[2] = x.told[2], x.told[1] }},
		{"no number", func(x *raw) { x.told[0].seq = 0 }},
		{"error and session", reply(rawReply{err: 16, session: 1})},
		{"error and token", reply(rawReply{err: 16, token: 1})},
		{"error and place", reply(rawReply{err: 16, place: 1})},
		{"error and count", reply(rawReply{err: 16, count: 1})},
		{"error and events", reply(rawReply{err: 16, events: many(1, event)})},
		{"error and eight events", reply(rawReply{err: 16, events: many(8, event), lost: true})},
		{"a later session", reply(rawReply{session: 5})},
		{"a later token", reply(rawReply{token: 44})},
		{"kind 0", reply(rawReply{events: many(1, rawEvent{0, "/a/x", 2, 43})})},
		{"no path", reply(rawReply{events: many(1, rawEvent{1, "x", 2, 43})})},
		{"above the root", reply(rawReply{events: many(1, rawEvent{1, "/", 2, 43})})},
		{"of no session", reply(rawReply{events: many(1, rawEvent{1, "/a", 0, 43})})},
		{"of a later session", reply(rawReply{events: many(1, rawEvent{1, "/a", 5, 43})})},
		{"without a token", reply(rawReply{events: many(1, rawEvent{1, "/a", 1, 0})})},
		{"with a later token", reply(rawReply{events: many(1, rawEvent{1, "/a", 1, 44})})},
		{"lost none", reply(rawReply{lost: true})},
		{"lost with room", reply(rawReply{events: many(7, event), lost: true})},
	} {
		fails(t, c.name, c.changed(t, some), api.ErrForm)
	}
	get(t, change{"eight", reply(rawReply{events: many(8, event), lost: true})}.changed(t, some))
}

// P23.4: all 64 clients, and all 64 locks of eight sessions.
func TestGetMost(t *testing.T) {
	x := raw{root: "/", token: 100, last: 8}
	for n := range 8 {
		x.sessions = append(x.sessions, rawSession{number: n + 1, client: 1})
	}
	for i := range 64 {
		x.held = append(x.held, rawLock{i%8 + 1, "/" + string(rune('a'+i/8)), false, uint64(i + 1)})
		x.told = append(x.told, rawTold{i + 1, i + 1, rawReply{}})
	}
	y := get(t, x.text())
	if put(y) != x.text() {
		t.Errorf("%x, not %x", put(y), x.text())
	}
	does(t, y, acquire(t, 1, 1, "/z", true, true), Reply{Err: api.ErrFull})
}

// P23.4 and P23.3: any altered byte is an error, or makes another table that has
// these bytes, and in which only sessions hold locks that do not conflict.
func TestGetAltered(t *testing.T) {
	found := 0
	for _, f := range []func(t *testing.T) (*Table, raw){some, overrun} {
		_, x := f(t)
		whole := x.text()
		for i := range whole {
			for by := 1; by < 256; by++ {
				s := []byte(whole)
				s[i] ^= byte(by)
				r := code.Read(string(s))
				y := Get(r)
				if (y == nil) != (r.Err() != api.OK) {
					t.Fatalf("%x: %v, %d", s, y, r.Err())
				}
				if y == nil {
					continue
				}
				found++
				if got := put(y); got != string(s[:len(s)-r.Left()]) {
					t.Fatalf("%x: %x", s, got)
				}
				sound(t, y)
			}
		}
	}
	if found < 100 {
		t.Errorf("only %d tables", found)
	}
}

// P23.2 and P23.4: a table that was read goes on as the one that was put.
func TestGetGoesOn(t *testing.T) {
	for _, f := range []func(t *testing.T) (*Table, raw){some, overrun} {
		x, _ := f(t)
		y := get(t, put(x))
		for _, c := range []Cmd{
			{Kind: Drain, Client: 7, Seq: 8, Session: 1}, {Kind: Keep, Client: 7, Seq: 7, Session: 1},
			{Kind: Drain, Client: 64, Seq: 6, Session: 3}, {Kind: Drain, Client: 5, Seq: 13, Session: 1},
			{Kind: Keep, Client: 7, Seq: 9, Session: 1}, {Kind: Close, Client: 2, Seq: 9, Session: 4},
			{Kind: Drain, Client: 7, Seq: 10, Session: 1}, {Kind: Open, Client: 3, Seq: 1}, {Kind: Expire, Session: 1, Count: 2},
		} {
			want := x.Apply(c.Text())
			if got := y.Apply(c.Text()); !equal(got, want) || put(x) != put(y) {
				t.Fatalf("%v: %v, not %v; %x, not %x", c, got, want, put(y), put(x))
			}
		}
	}
}
