package node

import (
	"slices"
	"strings"

	"chatelaine/api"
	"chatelaine/code"
	"chatelaine/msg"
	"chatelaine/table"
)

// mostSeq is the greatest number of a client's command.
const mostSeq = 1 << 40

// Answer is the answer to a client's command: whether it was executed, and its
// reply.
type Answer struct {
	Client, Seq int
	Final       bool
	Reply       table.Reply
}

// caller is who waits for the answer to the command of a slot: a client, and
// the node that it called.
type caller struct {
	slot, node, client, seq int
}

// callerOf returns who calls a command at a node, and whether clients may call
// it.
func callerOf(node int, text string) (caller, bool) {
	c, e := table.Parse(text)
	if e != api.OK || c.Kind == table.Expire {
		return caller{}, false
	}
	return caller{node: node, client: c.Client, seq: c.Seq}, true
}

// Call receives a client's command.
func (n *Node) Call(sub int, text string, now int) api.Errno {
	p, e := n.usable(sub)
	if e != api.OK {
		return e
	}
	c, ok := callerOf(n.id, text)
	switch {
	case !ok:
		return api.ErrForm
	case p.isReady():
		return p.begin(c, text, now)
	case p.owner.node != nobody && p.owner.node != n.id:
		p.tell(p.owner.node, msg.Msg{Kind: msg.Call, Text: strings.Clone(text)})
		return api.OK
	}
	p.try(now)
	return api.ErrOwner
}

// begin proposes a command of a client, which is a use of the subtree from the
// region of the node that was called.
func (p *part) begin(c caller, text string, now int) api.Errno {
	e := p.propose(now, text, c)
	if e == api.OK {
		p.board.Touch(p.Grid.Region(c.node), now)
	}
	return e
}

// call processes a Call: another node sends the command of its client. Without
// a command, an owner asks this node to take the subtree over.
func (p *part) call(m msg.Msg, now int) {
	if m.Text == "" {
		p.try(now)
		return
	}
	c, ok := callerOf(m.From, m.Text)
	if !ok {
		return
	}
	e := api.ErrOwner
	if p.isReady() {
		e = p.begin(c, m.Text, now)
	}
	if e != api.OK {
		p.deliver(c, false, table.Reply{Err: e})
	}
	p.giveWay(m.From, now)
}

// giveWay asks a node to take the subtree over if its region uses the subtree
// more than that of this one.
func (p *part) giveWay(to, now int) {
	region, gives := p.board.Gives(p.Grid.Region(p.id), now)
	if p.owns() && gives && region == p.Grid.Region(to) {
		p.tell(to, msg.Msg{Kind: msg.Call})
	}
}

// answer gives the caller of the command of a slot the reply.
func (p *part) answer(slot int, x table.Reply) {
	i := slices.IndexFunc(p.callers, func(c caller) bool { return c.slot == slot })
	if i < 0 {
		return
	}
	c := p.callers[i]
	p.callers = slices.Delete(p.callers, i, i+1)
	p.deliver(c, true, x)
}

// deliver gives a client an answer, at the node that it called.
func (p *part) deliver(c caller, final bool, x table.Reply) {
	if c.node == p.id {
		p.answers = append(p.answers, Answer{c.client, c.seq, final, x})
		return
	}
	var w code.Writer
	x.Put(w.N(c.client, c.seq))
	p.tell(c.node, msg.Msg{Kind: msg.Reply, OK: final, Text: w.Text()})
}

// reply processes a Reply: the owner answers a client that called this node.
func (p *part) reply(m msg.Msg) {
	r := code.Read(m.Text)
	a := Answer{Client: r.N(table.MaxClient), Seq: r.N(mostSeq), Final: m.OK, Reply: table.GetReply(r)}
	if r.Done() == api.OK {
		p.answers = append(p.answers, a)
	}
}
