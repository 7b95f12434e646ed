package table

import (
	"slices"

	"chatelaine/api"
	"chatelaine/code"
	"chatelaine/locks"
	"chatelaine/path"
)

// The kinds of events.
const (
	Granted = iota + 1
	Released
)

// Event tells that a session was granted a lock, or gave it up.
type Event struct {
	Kind    int
	Path    path.Path
	Session int
	Token   uint64
}

// about returns the event of a lock.
func about(kind int, x locks.Lock) Event {
	return Event{Kind: kind, Path: x.Path, Session: x.Session, Token: x.Token}
}

// Reply is the result of a command.
type Reply struct {
	Err          api.Errno
	Session      int
	Token        uint64
	Place, Count int
	Events       []Event
	Lost         bool
}

// fail returns the reply of a command that has an error.
func fail(e api.Errno) Reply { return Reply{Err: e} }

// Same reports whether two replies are equal.
func Same(a, b Reply) bool {
	return a.Err == b.Err && a.Session == b.Session && a.Token == b.Token &&
		a.Place == b.Place && a.Count == b.Count &&
		slices.Equal(a.Events, b.Events) && a.Lost == b.Lost
}

// clone returns the reply with events of its own.
func (x Reply) clone() Reply {
	x.Events = slices.Clone(x.Events)
	return x
}

// Put appends the reply to w.
func (x Reply) Put(w *code.Writer) {
	w.N(int(x.Err), x.Session).U(x.Token).N(x.Place, x.Count)
	putEvents(w, x.Events...)
	w.B(x.Lost)
}

// GetReply reads a reply.
func GetReply(r *code.Reader) Reply {
	var x Reply
	x.Err = api.Errno(r.N(int(api.ErrLate)))
	x.Session, x.Token = r.N(most), r.U()
	x.Place, x.Count = r.N(api.MaxWait), r.N(most)
	x.Events = getEvents(r)
	x.Lost = r.B()
	if r.Err() != api.OK {
		return Reply{}
	}
	return x
}

// putEvents appends the number of events, and each of them.
func putEvents(w *code.Writer, l ...Event) {
	w.N(len(l))
	for _, e := range l {
		w.N(e.Kind).S(e.Path.Text()).N(e.Session).U(e.Token)
	}
}

// getEvents reads the number of events, and each of them.
func getEvents(r *code.Reader) []Event {
	var l []Event
	for range r.N(api.MaxEvents) {
		var e Event
		if e.Kind = r.N(Released); e.Kind == 0 {
			r.Fail(api.ErrForm)
		}
		e.Path = getPath(r)
		e.Session, e.Token = r.N(most), r.U()
		l = append(l, e)
	}
	return l
}

// getPath reads the text of a path.
func getPath(r *code.Reader) path.Path {
	p, err := path.Parse(r.S(longest))
	if err != nil {
		r.Fail(api.ErrForm)
	}
	return p
}
