package keep

import (
	"slices"

	"chatelaine/accept"
	"chatelaine/api"
	"chatelaine/ballot"
	"chatelaine/code"
	"chatelaine/msg"
	"chatelaine/wal"
)

// The kinds of records.
const (
	promised = iota + 1
	accepted
	granted
	folded
)

// promiseOf returns the record of the ballot that an acceptor has promised.
func promiseOf(sub int, a *accept.Acceptor) string {
	var w code.Writer
	a.Promised().Put(w.N(promised, sub))
	return w.Text()
}

// entryOf returns the record of an entry that was accepted.
func entryOf(sub int, e msg.Entry) string {
	var w code.Writer
	e.Ballot.Put(w.N(accepted, sub, e.Slot))
	return w.S(e.Text).Text()
}

// grantOf returns the record of the grant of an acceptor. It has the promised
// ballot, which Ask has promised as well.
func grantOf(sub int, a *accept.Acceptor) string {
	node, end := a.Holder()
	var w code.Writer
	a.Promised().Put(w.N(granted, sub))
	return w.N(node+1, end).Text()
}

// imageOf returns the record of the image of a part.
func imageOf(sub int, p part) string {
	var w code.Writer
	return w.N(folded, sub, p.Base()).S(p.text).Text()
}

// records returns the records of parts, subtree by subtree.
func records(parts []part) []string {
	var l []string
	for sub, p := range parts {
		if p.Base() > 0 {
			l = append(l, imageOf(sub, p))
		}
		for _, e := range byBallot(p.List()) {
			l = append(l, entryOf(sub, e))
		}
		if !p.Promised().None() {
			l = append(l, promiseOf(sub, p.Acceptor))
		}
		if node, _ := p.Holder(); node >= 0 {
			l = append(l, grantOf(sub, p.Acceptor))
		}
	}
	return l
}

// byBallot sorts entries, which are in the order of their slots, by their
// ballots: an acceptor does not accept a lesser ballot after a greater one.
func byBallot(l []msg.Entry) []msg.Entry {
	slices.SortStableFunc(l, func(a, b msg.Entry) int { return ballot.Compare(a.Ballot, b.Ballot) })
	return l
}

// replay repeats on the parts what a record says, and reports whether it is a
// record and can be repeated.
func replay(parts []part, record string) bool {
	r := code.Read(record)
	kind, sub := r.N(folded), r.N(len(parts)-1)
	did := parts[sub].repeat(kind, r)
	return did && r.Done() == api.OK
}

// repeat repeats what a record of that kind says, and reports whether that was
// possible. An acceptor does again what it did before the record was written:
// at a time at which the grant excludes nobody, as it did then.
func (p *part) repeat(kind int, r *code.Reader) bool {
	var reply msg.Msg
	switch kind {
	case promised:
		reply, _ = p.Prepare(msg.Msg{Ballot: ballot.Get(r)}, api.MaxTime)
		return reply.Kind == msg.Promise
	case accepted:
		// The text of a message may be longer than that of a command.
		reply, _ = p.Accept(msg.Msg{Slot: r.N(api.MaxSlot), Ballot: ballot.Get(r), Text: r.S(wal.MaxRecord)})
		return reply.Kind == msg.Accepted
	case granted:
		b, node, end := ballot.Get(r), r.N(api.MaxNodes)-1, r.N(api.MaxTime)
		reply, _ = p.Ask(msg.Msg{From: node, Ballot: b}, end, 0)
		return reply.Kind == msg.Grant && node >= 0
	case folded:
		base := r.N(api.MaxSlot)
		p.text = r.S(api.MaxImage)
		return p.Trim(base)
	}
	return false
}
