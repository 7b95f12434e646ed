package locks

import (
	"slices"

	"chatelaine/api"
)

// Load returns the book with these locks, requests and last token, or ErrForm if
// no book is like that.
func Load(held, waits []Lock, last uint64) (*Book, api.Errno) {
	b := New(last)
	for _, x := range held {
		if !b.mayHold(x) {
			return nil, api.ErrForm
		}
		b.held = append(b.held, x)
	}
	for _, x := range waits {
		if !b.mayWait(x) {
			return nil, api.ErrForm
		}
		b.waits = append(b.waits, x)
	}
	return b, api.OK
}

// hasRoom reports whether a session may have one more lock or request.
func (b *Book) hasRoom(session int) bool { return session > 0 && b.count(session) < api.MaxHeld }

// mayHold reports whether x may be held after all other locks of the book.
func (b *Book) mayHold(x Lock) bool {
	n := len(b.held)
	if n > 0 && compare(b.held[n-1], x) >= 0 || !b.hasRoom(x.Session) {
		return false
	}
	if x.Token == 0 || x.Token > b.last || slices.ContainsFunc(b.held, x.sameToken) {
		return false
	}
	return !slices.ContainsFunc(b.held, x.conflicts)
}

// mayWait reports whether x may wait after all other requests of the book.
func (b *Book) mayWait(x Lock) bool {
	if len(b.waits) >= api.MaxWait || !b.hasRoom(x.Session) || x.Token != 0 {
		return false
	}
	if _, place := b.Find(x.Session, x.Path); place >= 0 {
		return false
	}
	return b.exhausted() || !b.free(x, b.waits)
}
