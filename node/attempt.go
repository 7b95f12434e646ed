package node

import (
	"chatelaine/api"
	"chatelaine/ballot"
	"chatelaine/learn"
	"chatelaine/msg"
	"chatelaine/propose"
)

// try begins an attempt to become the owner, if the node is idle.
func (p *part) try(now int) api.Errno {
	if p.proposer.Role() != propose.Idle {
		return api.OK
	}
	b, e := ballot.Next(p.heard, p.id)
	if e != api.OK {
		return e
	}
	p.heard, p.since, p.farthest = b, now, 0
	p.proposer.Try(b, p.next())
	p.prepare(now)
	return api.OK
}

// prepare sends the Prepare of the attempt.
func (p *part) prepare(now int) {
	p.consult(msg.Msg{Kind: msg.Prepare, Ballot: p.proposer.Ballot(), Slot: p.next()}, now)
}

// insist goes on with the attempt, as long as it may last.
func (p *part) insist(now int) {
	if now-p.since > p.Patience {
		p.proposer.Stop()
		return
	}
	p.prepare(now)
	p.catchUp()
}

// catchUp asks for what can no longer be found in entries.
func (p *part) catchUp() {
	if base, node := p.proposer.Needs(); p.tries() && base > p.learner.Done() {
		p.tell(node, msg.Msg{Kind: msg.Fetch, Slot: p.next()})
	}
}

// promised processes a Promise.
func (p *part) promised(m msg.Msg, now int) {
	// Such a Promise was asked for before a crash, and does not list what was
	// known then.
	if m.Time > p.next() || !p.proposer.Promised(m) {
		return
	}
	for _, e := range m.List {
		p.farthest = max(p.farthest, e.Slot)
	}
	p.lead(now)
	p.catchUp()
}

// lead makes the node the owner if its attempt has succeeded.
func (p *part) lead(now int) {
	// No acceptors together have so many entries, so none of them has sent that.
	if !p.tries() || p.farthest-p.learner.Done() > learn.MaxAhead {
		return
	}
	found := p.proposer.Lead(p.learner.Done())
	if !p.owns() {
		return
	}
	p.owner = owner{p.id, p.proposer.Ballot(), now}
	// A ballot of an owner must not be used again after a crash, but while the
	// node grants another one a lease, it promises its own ballot only by an
	// Accept. This one is for no slot.
	p.consultSelf(msg.Msg{Kind: msg.Accept, Ballot: p.proposer.Ballot()}, now)
	p.accept(now, found...)
	p.renew(now)
}

// accept sends the Accept of each entry, as long as the node is the owner.
func (p *part) accept(now int, l ...msg.Entry) {
	for _, e := range l {
		if p.owns() {
			p.consult(msg.Msg{Kind: msg.Accept, Ballot: e.Ballot, Slot: e.Slot, Text: e.Text}, now)
		}
	}
}

// refused processes a Refuse.
func (p *part) refused(m msg.Msg) {
	if owned := p.owns(); p.proposer.Refused(m) && owned {
		p.resign()
	}
}

// resign ends the ownership. Those who wait for an answer receive none, because
// what they have called may still be executed.
func (p *part) resign() {
	p.proposer.Stop()
	p.lease.Reset()
	p.owner.node = nobody
	p.callers, p.sessions = nil, nil
}
