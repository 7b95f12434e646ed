package fault

import "errors"

// deep is more than the length of any chain about which the document says
// something. It ends the chains that lead back into themselves.
const deep = 1 << 17

// first returns the first fault of a chain, or nil.
func first(err error) *Fault {
	var f *Fault
	if !errors.As(link{err, deep}, &f) {
		return nil
	}
	return f
}

// link stands for an error while errors.As examines a chain, at most left
// links farther. errors.As would follow all the errors that another package
// has joined, and believe an As method of another package; a chain is only an
// error, the one error that it unwraps to, and so on.
type link struct {
	err  error
	left int
}

// Error is there because errors.As takes errors only.
func (l link) Error() string { return "" }

// Unwrap returns the next link.
func (l link) Unwrap() error {
	next := inner(l.err)
	if next == nil || l.left == 0 {
		return nil
	}
	return link{next, l.left - 1}
}

// As stores the fault that the link is, if it is one.
func (l link) As(target any) bool {
	f := itself(l.err)
	place, ok := target.(**Fault)
	if f == nil || !ok {
		return false
	}
	*place = f
	return true
}

// itself returns the fault that err is, regardless of what it wraps, or nil.
func itself(err error) *Fault {
	f, ok := err.(*Fault)
	if !ok {
		return nil
	}
	return f
}

// inner returns the error that err unwraps to, or nil.
func inner(err error) (next error) {
	// An error of another package may panic (a nil pointer as an error, for
	// example); the chain ends there.
	defer func() {
		if recover() != nil {
			next = nil
		}
	}()
	switch e := err.(type) {
	case interface{ Unwrap() error }:
		return e.Unwrap()
	default:
		return nil
	}
}
