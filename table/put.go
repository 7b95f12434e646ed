package table

import (
	"slices"

	"chatelaine/api"
	"chatelaine/code"
	"chatelaine/locks"
	"chatelaine/path"
)

// Put appends the whole table to w.
func (t *Table) Put(w *code.Writer) {
	c := t.content()
	w.S(c.root.Text()).U(c.book.Last()).N(c.last, len(c.sessions))
	for _, s := range c.sessions {
		s.put(w)
	}
	putLocks(w, true, c.book.Held()...)
	putLocks(w, false, c.book.Waits()...)
	w.N(len(c.told))
	for _, x := range c.told {
		x.reply.Put(w.N(x.client, x.seq))
	}
}

// putLocks appends the number of locks, and each of them, with its token if they
// are held.
func putLocks(w *code.Writer, held bool, l ...locks.Lock) {
	w.N(len(l))
	for _, x := range l {
		w.N(x.Session).S(x.Path.Text()).B(x.Excl)
		if held {
			w.U(x.Token)
		}
	}
}

// Get reads a table.
func Get(r *code.Reader) *Table {
	root := getPath(r)
	t := New(root, r.U())
	t.last = r.N(most)
	for range r.N(api.MaxSessions) {
		t.getSession(r)
	}
	held := t.getLocks(r, true)
	waits := t.getLocks(r, false)
	book, e := locks.Load(held, waits, t.book.Last())
	if e != api.OK {
		r.Fail(e)
	}
	for range r.N(MaxClient) {
		t.getTold(r)
	}
	if r.Err() != api.OK {
		return nil
	}
	t.book = book
	return t
}

// require fails the reader unless what it has read is permitted.
func require(r *code.Reader, permitted bool) {
	if !permitted {
		r.Fail(api.ErrForm)
	}
}

// getBelow reads a path at or below the root.
func (t *Table) getBelow(r *code.Reader) path.Path {
	p := getPath(r)
	require(r, t.root.Over(p))
	return p
}

// getSession reads the session after those that the table has.
func (t *Table) getSession(r *code.Reader) {
	before := 0
	if n := len(t.sessions); n > 0 {
		before = t.sessions[n-1].number
	}
	var s session
	s.number = r.N(most)
	require(r, before < s.number && s.number <= t.last)
	s.client = r.N(MaxClient)
	require(r, s.client > 0)
	s.count = r.N(most)
	for range r.N(api.MaxHeld) {
		p, n := t.getBelow(r), len(s.watches)
		require(r, n == 0 || path.Compare(s.watches[n-1], p) < 0)
		s.watches = append(s.watches, p)
	}
	s.events, s.lost = getEvents(r), r.B()
	require(r, t.mayTell(s.events, s.lost) && !slices.ContainsFunc(s.events, s.ignores))
	t.sessions = append(t.sessions, s)
}

// getLocks reads locks that are held, or requests.
func (t *Table) getLocks(r *code.Reader, held bool) []locks.Lock {
	limit := api.MaxWait
	if held {
		limit = api.MaxSessions * api.MaxHeld
	}
	var l []locks.Lock
	for range r.N(limit) {
		var x locks.Lock
		x.Session = r.N(most)
		require(r, t.numbered(x.Session) != nil)
		x.Path, x.Excl = t.getBelow(r), r.B()
		if held {
			x.Token = r.U()
		}
		l = append(l, x)
	}
	return l
}

// getTold reads the last command of the client after those that the table has.
func (t *Table) getTold(r *code.Reader) {
	before := 0
	if n := len(t.told); n > 0 {
		before = t.told[n-1].client
	}
	var x told
	x.client = r.N(MaxClient)
	require(r, before < x.client)
	x.seq = r.N(most)
	require(r, x.seq > 0)
	x.reply = GetReply(r)
	require(r, t.mayReply(x.reply))
	t.told = append(t.told, x)
}

// mayReply reports whether the table can have given this reply.
func (t *Table) mayReply(x Reply) bool {
	if x.Err != api.OK && !Same(x, fail(x.Err)) {
		return false
	}
	return x.Session <= t.last && x.Token <= t.book.Last() && t.mayTell(x.Events, x.Lost)
}

// mayTell reports whether the table can have had these events: they are lost
// only if there is no room for more.
func (t *Table) mayTell(l []Event, lost bool) bool {
	wrong := func(e Event) bool {
		return !t.root.Over(e.Path) || e.Session < 1 || e.Session > t.last ||
			e.Token < 1 || e.Token > t.book.Last()
	}
	return !slices.ContainsFunc(l, wrong) && (!lost || len(l) == api.MaxEvents)
}
