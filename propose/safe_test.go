package propose

import (
	"math/rand"
	"slices"
	"strconv"
	"testing"

	"chatelaine/accept"
	"chatelaine/api"
	"chatelaine/ballot"
	"chatelaine/grid"
	"chatelaine/msg"
)

// member is a node: its acceptor, its proposer, and what it has learned.
type member struct {
	*accept.Acceptor
	*Proposer
	known map[int]string
	done  int           // it has learned everything up to this slot
	seen  ballot.Ballot // the greatest one that it has heard of
}

// learn records that a text is chosen.
func (n *member) learn(slot int, text string) {
	n.known[slot] = text
	for _, is := n.known[n.done+1]; is; _, is = n.known[n.done+1] {
		n.done++
	}
}

// attempt is a slot, and the ballot by which something is accepted for it.
type attempt struct {
	ballot.Ballot
	slot int
}

// world is nodes, the messages between them, and what an observer of all
// acceptors knows.
type world struct {
	t      *testing.T
	g      *rand.Rand
	c      grid.Config
	nodes  []*member
	fly    []msg.Msg
	votes  map[attempt]uint32
	texts  map[attempt]string
	chosen map[int]string
	by     map[int]ballot.Ballot // the least one by which it is chosen
	found  int                   // how many texts that were chosen before an owner has found
	names  int
}

func newWorld(t *testing.T, g *rand.Rand, c grid.Config) *world {
	w := &world{t: t, g: g, c: c, votes: map[attempt]uint32{}, texts: map[attempt]string{}, chosen: map[int]string{}, by: map[int]ballot.Ballot{}}
	for id := range c.Len() {
		witness := c.Witness&grid.Set(id) != 0
		w.nodes = append(w.nodes, &member{Acceptor: accept.New(witness), Proposer: New(c, id), known: map[int]string{}})
	}
	return w
}

// send sends a message to all nodes, or to some of them.
func (w *world) send(m msg.Msg) {
	for to := range w.nodes {
		if w.g.Intn(10) > 0 {
			m.To = to
			w.fly = append(w.fly, m)
		}
	}
}

// try lets a node try to become the owner.
func (w *world) try(id int) {
	n := w.nodes[id]
	b, _ := ballot.Next(n.seen, id)
	n.seen = b
	n.Try(b, n.done+1)
	w.send(msg.Msg{Kind: msg.Prepare, From: id, Ballot: b, Slot: n.done + 1})
}

// propose lets an owner propose a text, unless it has learned that slot.
func (w *world) propose(id int) {
	n := w.nodes[id]
	if _, is := n.known[n.Next()]; is {
		return
	}
	w.names++
	if e, errno := n.Propose("text " + strconv.Itoa(w.names)); errno == api.OK {
		w.accepts(id, e)
	}
}

// accepts sends an Accept for each of these proposals.
func (w *world) accepts(id int, l ...msg.Entry) {
	for _, e := range l {
		w.send(msg.Msg{Kind: msg.Accept, From: id, Ballot: e.Ballot, Slot: e.Slot, Text: e.Text})
	}
}

// lead makes a node the owner, if that is possible; it then has found what was
// chosen.
func (w *world) lead(id int) {
	n := w.nodes[id]
	if base, from := n.Needs(); base > n.done && w.g.Intn(2) > 0 {
		// The image of the node that has reported it contains this.
		for slot := range base {
			text, is := w.nodes[from].known[slot+1]
			if !is {
				w.t.Fatalf("node %d has not learned slot %d", from, slot+1)
			}
			n.learn(slot+1, text)
		}
	}
	if n.Role() != Trying {
		return
	}
	l := n.Lead(n.done)
	if n.Role() != Owner {
		return
	}
	w.finds(n, l)
	w.accepts(id, l...)
}

// finds fails unless an owner proposes what was chosen before by a lesser
// ballot; of a greater one, it may know nothing.
func (w *world) finds(n *member, l []msg.Entry) {
	for slot, text := range w.chosen {
		i := slices.IndexFunc(l, func(e msg.Entry) bool { return e.Slot == slot })
		switch {
		case slot <= n.done, ballot.Compare(w.by[slot], n.Ballot()) > 0:
		case i < 0:
			w.t.Fatalf("P18.3: an owner with %v has not found slot %d", n.Ballot(), slot)
		case l[i].Text != text:
			w.t.Fatalf("P18.3: for slot %d, an owner with %v has found %q, not %q", slot, n.Ballot(), l[i].Text, text)
		default:
			w.found++
		}
	}
}

// observe records that a node has accepted something.
func (w *world) observe(id int, m msg.Msg) {
	at := attempt{m.Ballot, m.Slot}
	if text, is := w.texts[at]; is && text != m.Text {
		w.t.Fatalf("P18.2: %q and %q are proposed for %v", text, m.Text, at)
	}
	w.texts[at] = m.Text
	if w.votes[at] |= grid.Set(id); w.c.IsSecond(w.votes[at]) {
		w.choose(at, m.Text)
	}
}

// choose records that a text is chosen.
func (w *world) choose(at attempt, text string) {
	old, is := w.chosen[at.slot]
	if is && old != text {
		w.t.Fatalf("P18.2: %q and %q are chosen for slot %d", old, text, at.slot)
	}
	w.chosen[at.slot] = text
	if !is || ballot.Compare(at.Ballot, w.by[at.slot]) < 0 {
		w.by[at.slot] = at.Ballot
	}
}

// deliver delivers a message.
func (w *world) deliver(m msg.Msg) {
	n := w.nodes[m.To]
	n.seen = ballot.Max(n.seen, m.Ballot)
	var reply msg.Msg
	switch m.Kind {
	case msg.Prepare:
		reply, _ = n.Prepare(m, 0)
	case msg.Accept:
		if reply, _ = n.Accept(m); reply.Kind == msg.Accepted {
			w.observe(m.To, m)
		}
	case msg.Promise:
		n.Proposer.Promised(m)
		w.lead(m.To)
	case msg.Accepted:
		if e, is := n.Accepted(m); is {
			if w.chosen[e.Slot] != e.Text {
				w.t.Fatalf("P18.2: %v is not chosen", e)
			}
			n.learn(e.Slot, e.Text)
		}
	case msg.Refuse:
		n.Refused(m)
	}
	if reply.Kind != 0 {
		reply.From, reply.To = m.To, m.From
		w.fly = append(w.fly, reply)
	}
}

// step lets anything happen.
func (w *world) step(calm int) {
	id := w.g.Intn(len(w.nodes))
	n := w.nodes[id]
	switch k := w.g.Intn(100); {
	case k < 4 && w.g.Intn(calm) == 0 && !n.Witness():
		w.try(id)
	case k < 12:
		w.propose(id)
	case k < 15:
		// It hears of something that is chosen.
		if from := w.nodes[w.g.Intn(len(w.nodes))]; from.done > n.done && !n.Witness() {
			n.learn(n.done+1, from.known[n.done+1])
		}
	case k < 17:
		// It has an image; a witness hears how far an owner has learned.
		base := n.done
		if n.Witness() {
			base = w.nodes[w.g.Intn(len(w.nodes))].done
		}
		n.Trim(base - w.g.Intn(2))
	case k == 17 && w.g.Intn(calm) == 0:
		n.Stop()
	case k < 25:
		w.accepts(id, n.Flights()...)
		w.lead(id)
	case len(w.fly) > 0:
		i := w.g.Intn(len(w.fly))
		m := w.fly[i]
		if w.g.Intn(8) > 0 {
			w.fly = slices.Delete(w.fly, i, i+1)
		}
		if w.g.Intn(10) > 0 {
			w.deliver(m)
		}
	}
}

// P18.2, P18.3: whatever messages are lost, duplicated or delayed, two
// different texts are never chosen for one slot, and each owner finds what was
// chosen.
func TestSafe(t *testing.T) {
	g := rand.New(rand.NewSource(2))
	chosen, found := 0, 0
	for i := range 1200 {
		w := newWorld(t, g, configs()[i%len(configs())])
		calm := 1 + g.Intn(8)
		for range 500 * w.c.Len() {
			w.step(calm)
		}
		chosen += len(w.chosen)
		found += w.found
	}
	if chosen < 10000 || found < 5000 {
		t.Errorf("%d texts were chosen, and %d of them found again", chosen, found)
	}
}
