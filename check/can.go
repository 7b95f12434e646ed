package check

import (
	"slices"

	"chatelaine/api"
	"chatelaine/client"
	"chatelaine/code"
	"chatelaine/path"
	"chatelaine/table"
)

// MaxOps is how many calls and Expires are examined at most.
const MaxOps = 8

// attempt is the beginning of an order: which calls it has, as bits, and the
// content of the table after them.
type attempt struct {
	done  uint
	table string
}

// search is a search for an order of calls.
type search struct {
	ops    []client.Op
	failed map[attempt]struct{} // beginnings that cannot be continued
}

// Can reports whether there is an order of calls and some of expires in which
// the calls that were answered received their replies.
func Can(root path.Path, last uint64, ops []client.Op, expires []string) (bool, api.Errno) {
	if len(ops)+len(expires) > MaxOps {
		return false, api.ErrBig
	}
	s := &search{ops: slices.Clone(ops), failed: map[attempt]struct{}{}}
	for _, text := range expires {
		// It may come anywhere or not at all, as a call that is not answered and
		// began before all others.
		s.ops = append(s.ops, client.Op{Text: text, End: -1})
	}
	return s.succeeds(0, table.New(root, last)), api.OK
}

// succeeds reports whether the calls of done, with the table after them, are the
// beginning of such an order.
func (s *search) succeeds(done uint, t *table.Table) bool {
	if !s.any(done, answered) {
		return true
	}
	a := attempt{done, content(t)}
	if _, is := s.failed[a]; is {
		return false
	}
	for i, op := range s.ops {
		early := func(other client.Op) bool { return isBefore(other, op.Start) }
		with := done | 1<<i
		if with == done || s.any(with, early) {
			continue
		}
		next := t.Clone()
		if accepts(op, next.Apply(op.Text)) && s.succeeds(with, next) {
			return true
		}
	}
	s.failed[a] = struct{}{}
	return false
}

// any reports whether f is true for a call that is not among done.
func (s *search) any(done uint, f func(client.Op) bool) bool {
	for i, op := range s.ops {
		if done&(1<<i) == 0 && f(op) {
			return true
		}
	}
	return false
}

// content returns the content of a table.
func content(t *table.Table) string {
	var w code.Writer
	t.Put(&w)
	return w.Text()
}
