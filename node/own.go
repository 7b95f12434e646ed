package node

import (
	"slices"

	"chatelaine/api"
	"chatelaine/msg"
	"chatelaine/table"
)

// renewal is when a session was last opened or renewed, as far as the owner
// knows: the number of its renewals, and whether its Expire was proposed.
type renewal struct {
	number, count, at int
	expires           bool
}

// propose proposes a text. Its callers are answered when it has been executed.
func (p *part) propose(now int, text string, l ...caller) api.Errno {
	e, err := p.proposer.Propose(text)
	if err != api.OK {
		return err
	}
	for _, c := range l {
		c.slot = e.Slot
		p.callers = append(p.callers, c)
	}
	p.accept(now, e)
	return api.OK
}

// serve does what an owner does from time to time.
func (p *part) serve(now int) {
	p.accept(now, p.proposer.Flights()...)
	if !p.owns() {
		return
	}
	p.tellAll(msg.Msg{Kind: msg.Chosen, Ballot: p.proposer.Ballot(), Slot: p.learner.Done()})
	if p.isReady() {
		p.extend(now)
		p.expire(now)
	}
}

// extend asks for the lease: again for the last round as long as it may still
// be granted, or in a new round when it is time for one.
func (p *part) extend(now int) {
	asked, is := p.lease.Asked()
	if again := is && !p.granted && now-asked < p.Term; !again {
		if is && now-asked < p.Every || !p.lease.Ask(now) {
			return
		}
		asked, p.granted = now, false
	}
	p.consult(msg.Msg{Kind: msg.Ask, Ballot: p.proposer.Ballot(), Time: asked}, now)
}

// grant processes a Grant.
func (p *part) grant(m msg.Msg) {
	if p.owns() && m.Ballot == p.proposer.Ballot() && p.lease.Granted(m.From, m.Time) {
		p.granted = true
	}
}

// renew records which sessions there are, if the node is ready. One that is new
// or has been renewed, also while the node was not ready, lasts from now on.
func (p *part) renew(now int) {
	if !p.isReady() {
		return
	}
	var l []renewal
	for _, number := range p.table.Sessions() {
		_, count, _ := p.table.Session(number)
		r := renewal{number: number, count: count, at: now}
		if known := p.renewal(number, count); known != nil {
			r = *known
		}
		l = append(l, r)
	}
	p.sessions = l
}

// renewal returns what is recorded of a session since that renewal, or nil.
func (p *part) renewal(number, count int) *renewal {
	i := slices.IndexFunc(p.sessions, func(r renewal) bool { return r.number == number && r.count == count })
	if i < 0 {
		return nil
	}
	return &p.sessions[i]
}

// expire proposes Expire for each session that has not been renewed for too
// long.
func (p *part) expire(now int) {
	for _, r := range slices.Clone(p.sessions) {
		if r.expires || now-r.at < p.Lease {
			continue
		}
		c := table.Cmd{Kind: table.Expire, Session: r.number, Count: r.count}
		if p.propose(now, c.Text()) != api.OK {
			return
		}
		// It may have been executed already.
		if known := p.renewal(r.number, r.count); known != nil {
			known.expires = true
		}
	}
}
