package node

import (
	"chatelaine/ballot"
	"chatelaine/image"
	"chatelaine/msg"
)

// mostLog is how many commands are executed without an image, also before they
// are flushed. An acceptor has no room for more than msg.MaxList.
const mostLog = msg.MaxList * 3 / 4

// chosen processes a Chosen: what this node has accepted with that ballot is
// chosen up to that slot.
func (p *part) chosen(m msg.Msg, now int) {
	if p.owns() {
		if !p.isGreater(m.Ballot) {
			return
		}
		p.resign()
	}
	p.follow(m, now)
	if m.Slot <= p.learner.Done() {
		return
	}
	p.learn(now, p.accepted(m.Ballot, m.Slot)...)
	if p.learner.Done() < m.Slot {
		p.tell(m.From, msg.Msg{Kind: msg.Fetch, Slot: p.next()})
	}
}

// accepted returns the entries that this node has accepted with a ballot, up to
// a slot.
func (p *part) accepted(b ballot.Ballot, most int) []msg.Entry {
	var l []msg.Entry
	for _, e := range p.store.Acceptor(p.sub).List() {
		if e.Ballot == b && e.Slot <= most {
			l = append(l, e)
		}
	}
	return l
}

// fetch answers a Fetch.
func (p *part) fetch(m msg.Msg) {
	if base, text := p.store.Image(p.sub); base > 0 && m.Slot <= base {
		p.tell(m.From, msg.Msg{Kind: msg.Snap, Slot: base, Text: text})
		return
	}
	p.tell(m.From, msg.Msg{Kind: msg.Give, List: p.learner.Log(m.Slot, msg.MaxList)})
}

// give processes a Give. An owner learns only what it has proposed itself.
func (p *part) give(m msg.Msg, now int) {
	if !p.owns() {
		p.learn(now, m.List...)
	}
}

// snap processes a Snap, whose image replaces the table if it contains more.
func (p *part) snap(m msg.Msg, now int) {
	if p.owns() || m.Slot <= p.learner.Done() {
		return
	}
	t, ok := p.read(m.Text, m.Slot)
	if !ok {
		return
	}
	p.fold(p.sub, m.Slot, m.Text)
	p.learner.Install(m.Slot)
	p.table = t
	p.learn(now)
}

// learn records that entries are chosen, and executes what can be executed.
func (p *part) learn(now int, l ...msg.Entry) {
	for _, e := range l {
		p.learner.Learn(e.Slot, e.Text)
	}
	for p.execute() {
	}
	p.renew(now)
	// An attempt may have waited for what has been executed now.
	p.lead(now)
}

// execute executes the next command, if it is known.
func (p *part) execute() bool {
	e, ok := p.learner.Next()
	if !ok {
		return false
	}
	reply := p.table.Apply(e.Text)
	p.did = append(p.did, Did{p.sub, e.Slot, e.Text})
	p.answer(e.Slot, reply)
	p.create(mostLog)
	return true
}

// create creates an image if so many commands have been executed since the last
// one.
func (p *part) create(after int) {
	slot := p.learner.Done()
	if slot-p.learner.Base() >= after {
		p.fold(p.sub, slot, image.Write(p.table, slot))
		p.learner.Fold(slot)
	}
}
