package locks

import (
	"cmp"

	"chatelaine/path"
)

// Lock is a lock of a session, or its request for one, which has no token.
type Lock struct {
	Session int
	Path    path.Path
	Excl    bool
	Token   uint64
}

// compare compares the paths, and then the sessions.
func compare(a, b Lock) int {
	return cmp.Or(path.Compare(a.Path, b.Path), cmp.Compare(a.Session, b.Session))
}

// same reports whether both belong to the same session and have the same path.
func (x Lock) same(o Lock) bool { return x.Session == o.Session && x.Path == o.Path }

// sameToken reports whether both have the same token.
func (x Lock) sameToken(o Lock) bool { return x.Token == o.Token }

// conflicts reports whether at most one of them can be held.
func (x Lock) conflicts(o Lock) bool {
	return x.Session != o.Session && (x.Excl || o.Excl) && path.InLine(x.Path, o.Path)
}
