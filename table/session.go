package table

import (
	"slices"

	"chatelaine/api"
	"chatelaine/code"
	"chatelaine/path"
)

// session is a session of a client: how often it was renewed, what it watches,
// and the events that it has not been told.
type session struct {
	number, client, count int
	watches               []path.Path // in ascending order
	events                []Event
	lost                  bool
}

// clone returns an independent copy.
func (s session) clone() session {
	s.watches, s.events = slices.Clone(s.watches), slices.Clone(s.events)
	return s
}

// watch adds a path to those that the session watches.
func (s *session) watch(p path.Path) Reply {
	i, found := slices.BinarySearchFunc(s.watches, p, path.Compare)
	switch {
	case found:
		return Reply{}
	case len(s.watches) >= api.MaxHeld:
		return fail(api.ErrFull)
	}
	s.watches = slices.Insert(s.watches, i, p)
	return Reply{}
}

// ignores reports whether the session does not watch the path of an event.
func (s *session) ignores(e Event) bool { return !slices.Contains(s.watches, e.Path) }

// hear adds an event if the session watches its path and has room for it.
func (s *session) hear(e Event) {
	switch {
	case s.ignores(e):
	case len(s.events) >= api.MaxEvents:
		s.lost = true
	default:
		s.events = append(s.events, e)
	}
}

// drain returns the events, which the session does not keep.
func (s *session) drain() Reply {
	x := Reply{Events: s.events, Lost: s.lost}
	s.events, s.lost = nil, false
	return x
}

// put appends the session to w.
func (s session) put(w *code.Writer) {
	w.N(s.number, s.client, s.count, len(s.watches))
	for _, p := range s.watches {
		w.S(p.Text())
	}
	putEvents(w, s.events...)
	w.B(s.lost)
}
