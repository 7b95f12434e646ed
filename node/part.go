package node

import (
	"chatelaine/api"
	"chatelaine/ballot"
	"chatelaine/image"
	"chatelaine/learn"
	"chatelaine/lease"
	"chatelaine/msg"
	"chatelaine/path"
	"chatelaine/propose"
	"chatelaine/steal"
	"chatelaine/table"
)

// nobody stands for the owner of a subtree if there is none.
const nobody = -1

// owner is the node that is believed to own a subtree: by which ballot, and
// when it was last heard of.
type owner struct {
	node   int
	ballot ballot.Ballot
	at     int
}

// part is what a node that is not a witness knows of a subtree.
type part struct {
	*Node
	sub      int
	table    *table.Table
	learner  *learn.Learner
	proposer *propose.Proposer
	lease    *lease.Lease
	board    *steal.Board
	heard    ballot.Ballot // the greatest one that it has heard of
	owner    owner

	// While it is Trying: since when, and the greatest slot that it has found.
	since, farthest int

	// While it is the owner: whether the last round of requests for the lease was
	// granted, who waits for answers, and when the sessions were renewed.
	granted  bool
	callers  []caller
	sessions []renewal
}

// load returns what the node has stored of a subtree with that root.
func (n *Node) load(sub int, root path.Path) (*part, api.Errno) {
	p := &part{
		Node:     n,
		sub:      sub,
		table:    table.New(root, n.Token),
		proposer: propose.New(n.Grid, n.id),
		lease:    lease.New(n.Grid, n.Term),
		board:    steal.New(n.Policy, n.Grid.Regions),
		heard:    ballot.Max(ballot.Ballot{C: n.Counter}, n.store.Acceptor(sub).Promised()),
		owner:    owner{node: nobody},
	}
	base, text := n.store.Image(sub)
	p.learner = learn.New(base)
	if base == 0 {
		return p, api.OK
	}
	t, ok := p.read(text, base)
	if !ok {
		return nil, api.ErrCorrupt
	}
	p.table = t
	return p, api.OK
}

// read returns the table of an image of the subtree, and whether it is one up
// to that slot.
func (p *part) read(text string, slot int) (*table.Table, bool) {
	t, at, e := image.Read(text)
	if e != api.OK || at != slot || t.Root() != p.table.Root() {
		return nil, false
	}
	return t, true
}

// next returns the slot after those that were executed. After the last one
// there is none that a message could name.
func (p *part) next() int { return min(p.learner.Done()+1, api.MaxSlot) }

// owns reports whether the node is the owner.
func (p *part) owns() bool { return p.proposer.Role() == propose.Owner }

// tries reports whether the node tries to become the owner.
func (p *part) tries() bool { return p.proposer.Role() == propose.Trying }

// isReady reports whether the node is the owner and has executed everything
// that it found.
func (p *part) isReady() bool { return p.owns() && p.learner.Done() >= p.proposer.Caught() }

// tell sends a message to one node.
func (p *part) tell(to int, m msg.Msg) { p.send(p.sub, to, m) }

// tellAll sends a message to all other nodes.
func (p *part) tellAll(m msg.Msg) {
	for to := range p.Grid.Len() {
		if to != p.id {
			p.tell(to, m)
		}
	}
}

// consult sends a message to all nodes, to this one without the network.
func (p *part) consult(m msg.Msg, now int) {
	p.tellAll(m)
	p.consultSelf(m, now)
}

// consultSelf lets the node's own acceptor process a message, and processes its
// reply.
func (p *part) consultSelf(m msg.Msg, now int) {
	m.From, m.Sub = p.id, p.sub
	reply := p.accepts(m, now)
	reply.From = p.id
	p.handle(reply, now)
}

// handle processes a message, after the acceptor has processed it.
func (p *part) handle(m msg.Msg, now int) {
	p.heard = ballot.Max(p.heard, m.Ballot)
	switch m.Kind {
	case msg.Prepare:
		if p.owns() && p.isGreater(m.Ballot) {
			p.lease.Yield()
		}
	case msg.Accept, msg.Ask:
		p.follow(m, now)
	case msg.Promise:
		p.promised(m, now)
	case msg.Accepted:
		if e, ok := p.proposer.Accepted(m); ok {
			p.learn(now, e)
		}
	case msg.Refuse:
		p.refused(m)
	case msg.Grant:
		p.grant(m)
	case msg.Chosen:
		p.chosen(m, now)
	case msg.Fetch:
		p.fetch(m)
	case msg.Give:
		p.give(m, now)
	case msg.Snap:
		p.snap(m, now)
	case msg.Call:
		p.call(m, now)
	case msg.Reply:
		p.reply(m)
	}
}

// isGreater reports whether a ballot is greater than that of the node.
func (p *part) isGreater(b ballot.Ballot) bool {
	return ballot.Compare(b, p.proposer.Ballot()) > 0
}

// follow records that another node is the owner, unless this one is, or knows
// of an owner with a greater ballot.
func (p *part) follow(m msg.Msg, now int) {
	if !p.owns() && ballot.Compare(m.Ballot, p.owner.ballot) >= 0 {
		p.owner = owner{m.From, m.Ballot, now}
	}
}

// tick does what is to be done from time to time.
func (p *part) tick(now int) {
	switch p.proposer.Role() {
	case propose.Idle:
		if now-p.owner.at > p.Patience {
			p.owner.node = nobody
		}
	case propose.Trying:
		p.insist(now)
	case propose.Owner:
		p.serve(now)
	}
}
