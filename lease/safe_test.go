package lease

import (
	"math/rand"
	"slices"
	"testing"

	"chatelaine/accept"
	"chatelaine/ballot"
	"chatelaine/clock"
	"chatelaine/drift"
	"chatelaine/grid"
	"chatelaine/msg"
	"chatelaine/propose"
)

// member is a node: its acceptor, its proposer and its lease.
type member struct {
	*accept.Acceptor
	*propose.Proposer
	*Lease
	seen ballot.Ballot // the greatest one that it has heard of
	slow bool          // whether its clock usually is
}

// world is nodes, their clocks, and the messages between them.
type world struct {
	t      *testing.T
	g      *rand.Rand
	c      grid.Config
	rate   drift.Rate
	long   int // how long a node that grants waits
	clocks *clock.Clocks
	nodes  []*member
	fly    []msg.Msg
	late   []msg.Msg // those that do not arrive at this time
	holder int       // the last node that held the lease, or -1
	moves  int       // how often another node held it

	// One of so many messages is late, and one of so many is lost.
	delay, loss int
	// In one of so many steps the clocks advance, by at most stride.
	rest, stride int
	// How seldom a node tries to become the owner, or gives up.
	calm int
}

func newWorld(t *testing.T, g *rand.Rand, c grid.Config, rate drift.Rate) *world {
	term := 1 + g.Intn(30)
	w := &world{t: t, g: g, c: c, rate: rate, long: Long(rate, term), clocks: clock.New(c.Len()), holder: -1}
	w.delay, w.loss = 2+g.Intn(8), 3+g.Intn(20)
	w.rest, w.stride, w.calm = 5+g.Intn(60), 1+g.Intn(6), 1+g.Intn(8)
	for id := range c.Len() {
		w.nodes = append(w.nodes, &member{
			Acceptor: accept.New(c.Witness&grid.Set(id) != 0),
			Proposer: propose.New(c, id),
			Lease:    New(c, term),
			slow:     g.Intn(2) == 0,
		})
	}
	return w
}

// put puts a message on its way; it may be lost, or late.
func (w *world) put(m msg.Msg) {
	switch {
	case w.g.Intn(w.loss) == 0:
	case w.g.Intn(w.delay) == 0:
		w.late = append(w.late, m)
	default:
		w.fly = append(w.fly, m)
	}
}

// send sends a message to all nodes.
func (w *world) send(m msg.Msg) {
	for to := range w.nodes {
		m.To = to
		w.put(m)
	}
}

// try lets a node try to become the owner.
func (w *world) try(id int) {
	n := w.nodes[id]
	b, _ := ballot.Next(n.seen, id)
	n.seen = b
	n.Try(b, 1)
	// What it has been granted it may use up, or forget.
	if n.Yields() || w.g.Intn(2) == 0 {
		n.Reset()
	}
	w.prepare(id)
}

// prepare lets a node that is trying ask for promises, perhaps once again.
func (w *world) prepare(id int) {
	if n := w.nodes[id]; n.Role() == propose.Trying {
		w.send(msg.Msg{Kind: msg.Prepare, From: id, Ballot: n.Ballot(), Slot: 1})
	}
}

// ask lets an owner begin a round, or ask again in the last one.
func (w *world) ask(id int) {
	n := w.nodes[id]
	if n.Role() != propose.Owner {
		return
	}
	if w.g.Intn(3) > 0 && !n.Lease.Ask(w.clocks.Now(id)) {
		return
	}
	if at, is := n.Asked(); is {
		w.send(msg.Msg{Kind: msg.Ask, From: id, Ballot: n.Ballot(), Time: at})
	}
}

// deliver delivers a message.
func (w *world) deliver(m msg.Msg) {
	n, now := w.nodes[m.To], w.clocks.Now(m.To)
	n.seen = ballot.Max(n.seen, m.Ballot)
	var reply msg.Msg
	switch m.Kind {
	case msg.Prepare:
		if n.Role() == propose.Owner && ballot.Compare(m.Ballot, n.Ballot()) > 0 {
			n.Yield()
		}
		reply, _ = n.Prepare(m, now)
	case msg.Promise:
		n.Proposer.Promised(m)
		n.Lead(0)
	case msg.Ask:
		reply, _ = n.Acceptor.Ask(m, now, w.long)
	case msg.Grant:
		n.Granted(m.From, m.Time)
	case msg.Refuse:
		n.Refused(m)
	}
	if reply.Kind != 0 {
		reply.From, reply.To = m.To, m.From
		w.put(reply)
	}
}

// pass advances the clocks by what the rate allows.
func (w *world) pass() {
	most := w.g.Intn(w.stride + 1)
	// While the fastest clock advances by most, no other one advances by less.
	least := (most*w.rate.Q + w.rate.P - 1) / w.rate.P
	for id, n := range w.nodes {
		by := most
		switch {
		case w.g.Intn(8) == 0:
			by = least + w.g.Intn(most-least+1)
		case n.slow:
			by = least
		}
		w.clocks.Go(id, by)
	}
	w.clocks.Step()
	late := w.late
	w.late = nil
	for _, m := range late {
		if w.g.Intn(3) == 0 {
			w.fly = append(w.fly, m)
		} else {
			w.late = append(w.late, m)
		}
	}
	if !w.clocks.Fits(w.rate) {
		w.t.Fatalf("the clocks do not fit %v", w.rate)
	}
}

// check fails if two nodes hold the lease.
func (w *world) check() {
	holder := -1
	for id, n := range w.nodes {
		if !n.Holds(w.clocks.Now(id)) {
			continue
		}
		if holder >= 0 {
			w.t.Fatalf("P20.2: node %d holds the lease at %d until %d, and node %d at %d until %d",
				holder, w.clocks.Now(holder), w.nodes[holder].Until(), id, w.clocks.Now(id), n.Until())
		}
		holder = id
	}
	if holder >= 0 {
		if w.holder >= 0 && w.holder != holder {
			w.moves++
		}
		w.holder = holder
	}
}

// step lets anything happen.
func (w *world) step() {
	if w.g.Intn(w.rest) == 0 {
		w.pass()
	}
	id := w.g.Intn(len(w.nodes))
	n, calm := w.nodes[id], w.g.Intn(w.calm) == 0
	switch k := w.g.Intn(100); {
	case k < 4 && calm && !n.Witness():
		w.try(id)
	case k < 8:
		w.prepare(id)
	case k < 13:
		w.ask(id)
	case k == 13 && calm:
		n.Yield()
	case k == 14 && calm:
		n.Stop()
	case len(w.fly) > 0:
		i := w.g.Intn(len(w.fly))
		m := w.fly[i]
		if w.g.Intn(8) > 0 {
			w.fly = slices.Delete(w.fly, i, i+1)
		}
		w.deliver(m)
	}
}

// P20.2: while the clocks fit, two nodes never hold the lease at the same time,
// whatever messages are lost, duplicated or delayed.
func TestOneAtATime(t *testing.T) {
	g := rand.New(rand.NewSource(3))
	rates := []drift.Rate{{P: 1, Q: 1}, {P: 11, Q: 10}, {P: 3, Q: 2}, {P: 7, Q: 2}, {P: 4, Q: 1}}
	moves := 0
	for i := range 2000 {
		c := configs()[1+i%5]
		w := newWorld(t, g, c, rates[g.Intn(len(rates))])
		for range 10000 {
			w.step()
			w.check()
		}
		moves += w.moves
	}
	if moves < 3000 {
		t.Errorf("only %d times another node held the lease", moves)
	}
}
